/-
  What stage 7's statements lean on, part 4 of 6 (put together by merge.py).
-/
import Derived.Test.YtkdcnddagebjpaaB3
namespace Go.Proofs.Ytkdcnddagebjpaa
set_option linter.unusedSimpArgs false
set_option linter.unusedVariables false
section
/- A region whose order is drawn, whose operations only grow the memory till the last one, a call that may turn what it likes; behind it its value is only moved. -/
open Go.RowKit
set_option maxRecDepth 20000

/-- Operation k comes last, but for moves of what it yields. -/
def lastB (ops : Array Oper) (k : Nat) : Bool := (List.range ops.size).all fun i => if i < k then ahead ops k i else if i = k then true else behind ops i k && ahead ops i k
theorem lastB_low {ops : Array Oper} {k i : Nat} (h : lastB ops k = true) (hi : i < ops.size) (hk : i < k) : ahead ops k i = true := by
  unfold lastB at h
  rw [List.all_eq_true] at h
  have := h i (List.mem_range.2 hi)
  rwa [if_pos hk] at this
theorem lastB_high {ops : Array Oper} {k i : Nat} (h : lastB ops k = true) (hi : i < ops.size) (hk : k < i) : behind ops i k = true ∧ ahead ops i k = true := by
  unfold lastB at h
  rw [List.all_eq_true] at h
  have := h i (List.mem_range.2 hi)
  rwa [if_neg (by omega), if_neg (by omega), Bool.and_eq_true] at this
section
variable {P : Program} {ops : Array Oper} {Q : Exit → Act → World → Prop}
def lasts (ops : Array Oper) (l : List Say) (k : Nat) (R : Value → World → Prop) (W : World) : Phases := fun L f w =>
  if L k = true then R (f k) w ∧ ∀ j, k < j → j < ops.size → L j = true → (∃ o d, ops[j]? = some o ∧ o.dst = some d) → f j = f k
  else Below W.heap.size W w ∧ ∀ j, j < k → L j = true → (∃ o d, ops[j]? = some o ∧ o.dst = some d) → (says l j).p w (f j)
theorem region_last {id : Nat} {a0 : Act} {W : World} (k dk : Nat) (l : List Say) (R : Value → World → Prop) {ok : Oper} (hk : ops[k]? = some ok) (hdk : ok.dst = some dk) (hgk : ok.guard = none) (hlast : lastB ops k = true)
    (hm : P.follows .mixedOrders = true) (hB : onceB ops = true) (hR : roomB ops a0.tmps.size = true) (hlow : lowB ops = true)
    (duty : ∀ i o, i < k → ops[i]? = some o → DutyG P ops Q l a0 W i o)
    (turn : ∀ (a : Act) (w : World), Below W.heap.size W w → a.tmps.size = a0.tmps.size → (∀ t, oldB ops k t = true → a.tmps.getD t undef = a0.tmps.getD t undef) →
      (∀ j oj d, behind ops k j = true → ops[j]? = some oj → oj.dst = some d → (says l j).p w (a.tmps.getD d undef)) → ok.wp P a w (fun a' w' => ∃ v, a' = a.put ok.dst v ∧ R v w') Q)
    (move : ∀ i o, k < i → ops[i]? = some o → o.guard = none ∧ ∀ (a : Act) (w : World), (execOp a.eval o).run P w = .ok (.value (a.tmps.getD dk undef)) w)
    (fin : ∀ a w v, R v w → a.tmps.size = a0.tmps.size → a.defers = a0.defers → a.tmps.getD dk undef = v → (∀ (j : Nat) (o : Oper) (d : Tmp), k < j → ops[j]? = some o → o.dst = some d → a.tmps.getD d undef = v) →
      (∀ t : Tmp, neverB ops t = true → a.tmps.getD t undef = a0.tmps.getD t undef) → Q .normal a w) :
    (Code.region id ops true).wp P Q a0 W := by
  have hks : k < ops.size := (Array.getElem?_eq_some_iff.1 hk).1
  refine region_phases (fun _ _ => True) (lasts ops l k R W) hm hB hR hlow ?_ ?_ ?_ ?_
  · intro L L' f f' w hL hf h
    unfold lasts at h ⊢
    rw [← hL k hks]
    split
    · rename_i hlk
      rw [if_pos hlk] at h
      have e := hf k hks hlk ⟨ok, dk, hk, hdk⟩
      refine ⟨by rw [← e]; exact h.1, fun j hkj hj hl hex => ?_⟩
      have hl' : L j = true := by rw [hL j hj]; exact hl
      rw [← e, ← hf j hj hl' hex]
      exact h.2 j hkj hj hl' hex
    · rename_i hlk
      rw [if_neg hlk] at h
      refine ⟨h.1, fun j hj hl hex => ?_⟩
      have hl' : L j = true := by rw [hL j (by omega)]; exact hl
      rw [← hf j (by omega) hl' hex]
      exact h.2 j hj hl' hex
  · unfold lasts
    rw [if_neg (by simp)]
    exact ⟨(Below.refl _ _).drew, fun _ _ h => by cases h⟩
  · intro i o ho L a w hph hsz hLi hnot hyes old dep
    have hi : i < ops.size := (Array.getElem?_eq_some_iff.1 ho).1
    rcases Nat.lt_trichotomy i k with h | h | h
    · have hLk : ¬ L k = true := by rw [hnot k (lastB_low hlast hi h)]; decide
      unfold lasts at hph
      rw [if_neg hLk] at hph
      have h1 := duty i o h ho a w hph.1 hsz old (fun j oj d hbd hoj hd => by
        have hjk : j < k := by
          rcases Nat.lt_or_ge j k with h2 | h2
          · exact h2
          · have hj : j < ops.size := (Array.getElem?_eq_some_iff.1 hoj).1
            have := hyes j hbd
            rcases Nat.lt_or_eq_of_le h2 with h3 | h3
            · exfalso
              have hlow' : j < i := by
                unfold lowB at hlow
                rw [List.all_eq_true] at hlow
                have h4 := hlow i (List.mem_range.2 hi)
                unfold behind at hbd
                rw [ho] at h4 hbd
                simp only [Option.map_some, Option.getD_some] at h4 hbd
                rw [Array.all_eq_true'] at h4
                rw [Array.any_eq_true'] at hbd
                obtain ⟨e, he, hb⟩ := hbd
                rw [Bool.and_eq_true, beq_iff_eq] at hb
                have h5 := h4 e he
                rw [hb.1] at h5
                simp only [Bool.not_true, Bool.false_or, decide_eq_true_eq] at h5
                omega
              omega
            · subst h3; exact absurd this hLk
        have := hph.2 j hjk (hyes j hbd) ⟨oj, d, hoj, hd⟩
        rwa [got_dst hoj hd] at this)
      have step : ∀ (v : Value) (w' : World), (says l i).p w' v → Below w.heap.size w w' → lasts ops l k R W (also L i) (yielding (got ops a) i v) w' := by
        intro v w' hs hb
        unfold lasts
        rw [if_neg (by simp only [also]; rw [beq_eq_false_iff_ne.2 (by omega : k ≠ i), Bool.false_or]; exact hLk)]
        refine ⟨hph.1.trans (hb.mono hph.1.size), fun j hj hl hex => ?_⟩
        by_cases e : j = i
        · subst e
          simpa [yielding] using hs
        · have h1 := hph.2 j hj (by simpa [also, e] using hl) hex
          have := (says l j).st w w' _ h1 hb
          simpa [yielding, e] using this
      split at h1
      · rename_i hw
        rw [if_pos hw]
        refine Oper.wp_mono ?_ h1
        rintro a' w' ⟨v, e, hs, hb⟩
        exact ⟨v, e, trivial, step v w' hs hb⟩
      · rename_i hw
        rw [if_neg hw]
        exact ⟨trivial, step _ _ h1 (Below.refl _ _)⟩
    · subst h
      rw [hk] at ho
      obtain rfl := Option.some.inj ho
      rw [if_pos (wanted_none hgk)]
      unfold lasts at hph
      rw [if_neg (by rw [hLi]; decide)] at hph
      have h1 := turn a w hph.1 hsz old (fun j oj d hbd hoj hd => by
        have hj : j < ops.size := (Array.getElem?_eq_some_iff.1 hoj).1
        have hLj := hyes j hbd
        have hji : j < i := by
          rcases Nat.lt_trichotomy j i with h2 | h2 | h2
          · exact h2
          · subst h2; rw [hLi] at hLj; cases hLj
          · rw [hnot j (lastB_high hlast hj h2).2] at hLj; cases hLj
        have := hph.2 j hji hLj ⟨oj, d, hoj, hd⟩
        rwa [got_dst hoj hd] at this)
      refine Oper.wp_mono ?_ h1
      rintro a' w' ⟨v, e, hr⟩
      refine ⟨v, e, trivial, ?_⟩
      unfold lasts
      rw [if_pos (by simp [also])]
      refine ⟨by simpa [yielding] using hr, fun j hij hj hl _ => ?_⟩
      exfalso
      have : L j = true := by simpa [also, Nat.ne_of_gt hij] using hl
      rw [hnot j (lastB_high hlast hj hij).2] at this
      cases this
    · have hh := lastB_high hlast hi h
      have hLk := hyes k hh.1
      obtain ⟨hg, hrun⟩ := move i o h ho
      rw [if_pos (wanted_none hg)]
      unfold lasts at hph
      rw [if_pos hLk] at hph
      rw [got_dst hk hdk] at hph
      refine wp_yields (V := fun _ _ => True) (M := lasts ops l k R W) (v := a.tmps.getD dk undef) (w' := w) (hrun a w) trivial ?_
      unfold lasts
      have hlk2 : also L i k = true := by simp [also, hLk]
      rw [if_pos hlk2]
      have ek : yielding (got ops a) i (a.tmps.getD dk undef) k = a.tmps.getD dk undef := by
        unfold yielding
        rw [if_neg (by omega), got_dst hk hdk]
      rw [ek]
      refine ⟨hph.1, fun j hkj hj hl hex => ?_⟩
      unfold yielding
      by_cases e : j = i
      · rw [if_pos e]
      · rw [if_neg e]
        have hl' : L j = true := by simpa [also, e] using hl
        exact hph.2 j hkj hj hl' hex
  · intro a w hph hsz hdf _ keep
    unfold lasts at hph
    rw [if_pos rfl, got_dst hk hdk] at hph
    refine fin a w _ hph.1 hsz hdf rfl (fun j o d hkj ho hd => ?_) keep
    have := hph.2 j hkj (Array.getElem?_eq_some_iff.1 ho).1 rfl ⟨o, d, ho, hd⟩
    rwa [got_dst ho hd] at this
/-- The call. -/
theorem last_enters {o : Oper} {a : Act} {w : World} {f : FuncId} {args : Array Value} {R : Value → World → Prop} (hrun : (execOp a.eval o).run P w = .ok (.enter f args) w)
    (hc : Calls P f args w fun e w' => ∃ v, e = .returned v ∧ R v w') : o.wp P a w (fun a' w' => ∃ v, a' = a.put o.dst v ∧ R v w') Q := by
  unfold Oper.wp
  rw [hrun, Oper.upon_enter]
  refine hc.mono ?_
  rintro e w' ⟨v, rfl, hr⟩
  exact ⟨v, rfl, hr⟩
def stored (ops : Array Oper) (l : List Say) (k : Nat) (R : World → Prop) (W : World) : Phases := fun L f w =>
  if L k = true then R w
  else Below W.heap.size W w ∧ ∀ j, j < k → L j = true → (∃ o d, ops[j]? = some o ∧ o.dst = some d) → (says l j).p w (f j)
/-- The same, the last operation a store. -/
theorem region_store {id : Nat} {a0 : Act} {W : World} (k : Nat) (l : List Say) (R : World → Prop) {ok : Oper} (hk : ops[k]? = some ok) (hdk : ok.dst = none) (hgk : ok.guard = none) (hsz : ops.size = k + 1) (hlast : lastB ops k = true)
    (hm : P.follows .mixedOrders = true) (hB : onceB ops = true) (hR : roomB ops a0.tmps.size = true) (hlow : lowB ops = true)
    (duty : ∀ i o, i < k → ops[i]? = some o → DutyG P ops Q l a0 W i o)
    (turn : ∀ (a : Act) (w : World), Below W.heap.size W w → a.tmps.size = a0.tmps.size → (∀ t, oldB ops k t = true → a.tmps.getD t undef = a0.tmps.getD t undef) →
      (∀ j oj d, behind ops k j = true → ops[j]? = some oj → oj.dst = some d → (says l j).p w (a.tmps.getD d undef)) → ∃ w', (execOp a.eval ok).run P w = .ok .skip w' ∧ R w')
    (fin : ∀ a w, R w → a.tmps.size = a0.tmps.size → a.defers = a0.defers → (∀ t : Tmp, neverB ops t = true → a.tmps.getD t undef = a0.tmps.getD t undef) → Q .normal a w) :
    (Code.region id ops true).wp P Q a0 W := by
  have hks : k < ops.size := by omega
  refine region_phases (fun _ _ => True) (stored ops l k R W) hm hB hR hlow ?_ ?_ ?_ ?_
  · intro L L' f f' w hL hf h
    unfold stored at h ⊢
    rw [← hL k hks]
    split
    · rename_i hlk
      rwa [if_pos hlk] at h
    · rename_i hlk
      rw [if_neg hlk] at h
      refine ⟨h.1, fun j hj hl hex => ?_⟩
      have hl' : L j = true := by rw [hL j (by omega)]; exact hl
      rw [← hf j (by omega) hl' hex]
      exact h.2 j hj hl' hex
  · unfold stored
    rw [if_neg (by simp)]
    exact ⟨(Below.refl _ _).drew, fun _ _ h => by cases h⟩
  · intro i o ho L a w hph hsz2 hLi hnot hyes old dep
    have hi : i < ops.size := (Array.getElem?_eq_some_iff.1 ho).1
    have hdep : ∀ j oj d, ¬ L k = true → behind ops i j = true → ops[j]? = some oj → oj.dst = some d → (says l j).p w (a.tmps.getD d undef) := by
      intro j oj d hLk hbd hoj hd
      unfold stored at hph
      rw [if_neg hLk] at hph
      have hj : j < ops.size := (Array.getElem?_eq_some_iff.1 hoj).1
      have hjk : j < k := by
        rcases Nat.lt_or_ge j k with h2 | h2
        · exact h2
        · obtain rfl : j = k := by omega
          exact absurd (hyes j hbd) hLk
      have := hph.2 j hjk (hyes j hbd) ⟨oj, d, hoj, hd⟩
      rwa [got_dst hoj hd] at this
    rcases Nat.lt_or_ge i k with h | h
    · have hLk : ¬ L k = true := by rw [hnot k (lastB_low hlast hi h)]; decide
      unfold stored at hph
      rw [if_neg hLk] at hph
      have h1 := duty i o h ho a w hph.1 hsz2 old (fun j oj d hbd hoj hd => hdep j oj d hLk hbd hoj hd)
      have step : ∀ (v : Value) (w' : World), (says l i).p w' v → Below w.heap.size w w' → stored ops l k R W (also L i) (yielding (got ops a) i v) w' := by
        intro v w' hs hb
        unfold stored
        rw [if_neg (by simp only [also]; rw [beq_eq_false_iff_ne.2 (by omega : k ≠ i), Bool.false_or]; exact hLk)]
        refine ⟨hph.1.trans (hb.mono hph.1.size), fun j hj hl hex => ?_⟩
        by_cases e : j = i
        · subst e
          simpa [yielding] using hs
        · have h1 := hph.2 j hj (by simpa [also, e] using hl) hex
          have := (says l j).st w w' _ h1 hb
          simpa [yielding, e] using this
      split at h1
      · rename_i hw
        rw [if_pos hw]
        refine Oper.wp_mono ?_ h1
        rintro a' w' ⟨v, e, hs, hb⟩
        exact ⟨v, e, trivial, step v w' hs hb⟩
      · rename_i hw
        rw [if_neg hw]
        exact ⟨trivial, step _ _ h1 (Below.refl _ _)⟩
    · obtain rfl : i = k := by omega
      rw [hk] at ho
      obtain rfl := Option.some.inj ho
      rw [if_pos (wanted_none hgk)]
      have hLk : ¬ L i = true := by rw [hLi]; decide
      have hph2 := hph
      unfold stored at hph2
      rw [if_neg hLk] at hph2
      obtain ⟨w', hrun, hr⟩ := turn a w hph2.1 hsz2 old (fun j oj d hbd hoj hd => hdep j oj d hLk hbd hoj hd)
      refine wp_skips (V := fun _ _ => True) (M := stored ops l i R W) (w' := w') hrun trivial ?_
      unfold stored
      rw [if_pos (by simp [also])]
      exact hr
  · intro a w hph hsz2 hdf _ keep
    unfold stored at hph
    rw [if_pos rfl] at hph
    exact fin a w hph hsz2 hdf keep
/-- A call, in a region by phases. -/
theorem phase_enters {o : Oper} {a : Act} {w : World} {i : Nat} {L : Nat → Bool} {V : Nat → Value → Prop} {M : Phases} (f : FuncId) (args : Array Value) (hrun : (execOp a.eval o).run P w = .ok (.enter f args) w)
    (hc : Calls P f args w fun e w' => ∃ v, e = .returned v ∧ V i v ∧ M (also L i) (yielding (got ops a) i v) w') : o.wp P a w (fun a' w' => ∃ v, a' = a.put o.dst v ∧ V i v ∧ M (also L i) (yielding (got ops a) i v) w') Q := by
  unfold Oper.wp
  rw [hrun, Oper.upon_enter]
  refine hc.mono ?_
  rintro e w' ⟨v, rfl, hr⟩
  exact ⟨v, rfl, hr⟩
end
end
section
/- A lane in memory: one block, the bytes that it keeps, the disk beneath it; its quiet calls. -/
open Go.RowKit
set_option maxRecDepth 20000
set_option linter.unusedSimpArgs false
set_option linter.unusedVariables false

/-- A lane, as data. -/
structure Ln where
  r : Nat
  bank : Nat
  gen : Nat
  first : Nat
  kept : List UInt8
  sure : Nat
  astray : Bool
def Ln.len (l : Ln) : Nat := l.first * 56 + l.kept.length
def Ln.nsec (l : Ln) : Nat := (l.kept.length + 55) / 56
def Ln.sec (l : Ln) (i : Nat) : Nat := 2 + l.bank * 256 + i
/-- What a lane is within. -/
structure Ln.Fit (l : Ln) : Prop where
  r : l.r < 64
  bank : l.bank ≤ 1
  gen : l.gen ≤ 1000000
  len : l.len ≤ 14336
/-- Its cells. -/
def Ln.cells (l : Ln) (dg : Nat) (kv : Value) : Array Value := #[ptr dg, .int .i64 (l.r : Int), .int .i64 (l.bank : Int), .int .u64 (l.gen : Int), .int .i64 (l.first : Int), kv, .int .i64 (l.sure : Int), .bool l.astray]
/-- The block that a slice lies in. -/
def blkOf : Value → Option Nat
  | .slice (some a) _ _ => some a.block
  | _ => none
/-- The bytes kept: a slice that is full, or a row of its own. -/
def Kp (w : World) (v : Value) (l : List UInt8) : Prop := ∃ A c, v = .slice A l.length c ∧ Rd w v (u8s l) ∧ (c = l.length ∨ Mine w 0 v l)
/-- The blocks that no call of the disk's turns. -/
def LX (X : Nat → Prop) (g : Nat) (kv : Value) : Nat → Prop := fun k => X k ∨ k = g ∨ blkOf kv = some k
structure LnAt (w : World) (X : Nat → Prop) (dg : Nat) (d : Ds) (g : Nat) (l : Ln) (kv : Value) : Prop where
  many : Many w (LX X g kv) [(dg, d)]
  xg : ¬ X g
  xk : ∀ k, blkOf kv = some k → ¬ X k ∧ k ≠ g
  blk : Blk w g 86 (l.cells dg kv)
  kept : Kp w kv l.kept
theorem Kp.below {w w' : World} {v : Value} {l : List UInt8} (h : Kp w v l) (hb : Below w.heap.size w w') : Kp w' v l := by
  obtain ⟨A, c, e, h1, h2⟩ := h
  refine ⟨A, c, e, h1.below hb, h2.imp id fun hm => ?_⟩
  unfold Mine at hm ⊢
  exact World.ownsRow.kept (row := none) hm ⟨hb.os, hb.tape, hb.output, hb.size, fun k hk _ => hb.block k hk⟩ (by
    cases hv : v.ownBlock with
    | none => exact .inl rfl
    | some k => exact .inr (by simp))
theorem Many.out {w w' : World} {X : Nat → Prop} {l : List (Nat × Ds)} (h : Many w X l) {k : Nat} (hk : X k) : k < w.heap.size := h.1 k hk
/-- Of blocks of X' nothing has turned; so the reading of what is kept stays. -/
theorem Kp.out {w w' : World} {X : Nat → Prop} {v : Value} {l : List UInt8} (h : Kp w v l) (ho : Out X w w') (hx : ∀ k, blkOf v = some k → X k) : Kp w' v l := by
  obtain ⟨A, c, e, h1, h2⟩ := h
  have hcell : ∀ p : Addr, A.map (·.block) = some p.block → p.block < w.heap.size → w'.cell? p = w.cell? p := fun p hp hlt => Kept.cell ho hlt (fun hn => hn (hx _ (by
    subst e
    cases A with
    | none => cases hp
    | some a => simpa [blkOf] using hp)))
  refine ⟨A, c, e, ?_, h2.imp id fun hm => ?_⟩
  · obtain ⟨A', c', e', hc, hr⟩ := h1
    subst e
    injection e' with e1 e2 e3
    subst e1 e3
    refine ⟨A, c, by rw [← e2], hc, fun hn => ?_⟩
    obtain ⟨b, o, rfl, hb, hh⟩ := hr hn
    exact ⟨b, o, rfl, Nat.lt_of_lt_of_le hb ho.size, fun j u hu => (hcell ⟨b, o + j, none⟩ rfl hb).trans (hh j u hu)⟩
  · unfold Mine at hm ⊢
    refine Kept.own ho hm (fun k hk hn => hn (hx k ?_))
    subst e
    unfold Value.ownBlock at hk
    unfold blkOf
    revert hk
    cases A <;> simp
section
variable {w w' : World} {X : Nat → Prop} {dg : Nat} {d d' : Ds} {g : Nat} {l l' : Ln} {kv : Value}
theorem LnAt.lt (h : LnAt w X dg d g l kv) : g < w.heap.size := h.blk.lt
theorem LnAt.below (h : LnAt w X dg d g l kv) (hb : Below w.heap.size w w') : LnAt w' X dg d g l kv := ⟨h.many.below hb, h.xg, h.xk, h.blk.below hb, h.kept.below hb⟩
/-- Behind a call of the disk's. -/
theorem LnAt.turned (h : LnAt w X dg d g l kv) (hm : Many w' (LX X g kv) [(dg, d')]) (ho : Out (LX X g kv) w w') : LnAt w' X dg d' g l kv :=
  ⟨hm, h.xg, h.xk, Out.blk ho h.blk (.inr (.inl rfl)), h.kept.out ho (fun k hk => .inr (.inr hk))⟩
theorem Out.less {X Y : Nat → Prop} {a b : World} (h : Out Y a b) (hs : ∀ k, X k → Y k) : Out X a b := Kept.mono h (fun k hk => .inl (fun hx => hk (hs k hx)))
theorem LX.sub {k : Nat} (h : X k) : LX X g kv k := .inl h
theorem LnAt.cell (h : LnAt w X dg d g l kv) : w.cell? ⟨g, 0, none⟩ = some (ptr dg) ∧ w.cell? ⟨g, 1, none⟩ = some (.int .i64 (l.r : Int)) ∧ w.cell? ⟨g, 2, none⟩ = some (.int .i64 (l.bank : Int)) ∧ w.cell? ⟨g, 3, none⟩ = some (.int .u64 (l.gen : Int)) ∧
    w.cell? ⟨g, 4, none⟩ = some (.int .i64 (l.first : Int)) ∧ w.cell? ⟨g, 5, none⟩ = some kv ∧ w.cell? ⟨g, 6, none⟩ = some (.int .i64 (l.sure : Int)) ∧ w.cell? ⟨g, 7, none⟩ = some (.bool l.astray) :=
  ⟨h.blk.cell 0 _ rfl, h.blk.cell 1 _ rfl, h.blk.cell 2 _ rfl, h.blk.cell 3 _ rfl, h.blk.cell 4 _ rfl, h.blk.cell 5 _ rfl, h.blk.cell 6 _ rfl, h.blk.cell 7 _ rfl⟩
theorem below_drewN (w : World) (k : Nat) : Below w.heap.size w (w.drewN k) := ⟨rfl, rfl, rfl, Nat.le_refl _, fun _ _ => rfl⟩

theorem ret_int {a b : Int} {k : IntKind} (h : a = b) : Ending.returned (.int k a) = Ending.returned (.int k b) := by rw [h]
theorem len_ln (h : LnAt w X dg d g l kv) (hf : l.len ≤ 14336) : Calls Try.prog 37 #[ptr g] w fun e w' => e = .returned (.int .i64 (l.len : Int)) ∧ Below w.heap.size w w' := by
  obtain ⟨_, _, _, _, c4, c5, _, _⟩ := h.cell
  obtain ⟨A, c, rfl, hr, _⟩ := h.kept
  clear h hr
  unfold Ln.len at hf
  unfold ptr
  go_enter Try.func37, Try.ntmps37
  go_wp2
  go_quiet (fail)
  go_wp2
  go_ret
  exact ⟨ret_int (by unfold Ln.len; omega), below_drewN _ _⟩
theorem room_ln (h : LnAt w X dg d g l kv) (hf : l.len ≤ 14336) : Calls Try.prog 35 #[ptr g] w fun e w' => e = .returned (.int .i64 ((14336 - l.len : Nat) : Int)) ∧ Below w.heap.size w w' := by
  go_enter Try.func35, Try.ntmps35
  go_wp2_with (go_at_call 37; refine (len_ln h hf).mono ?_; rintro e w1 ⟨rfl, hb⟩)
  go_ret
  exact ⟨ret_int (by omega), hb⟩
theorem place_ln (h : LnAt w X dg d g l kv) (hg : l.gen ≤ 1000000) (n : Nat) (hn : n ≤ 20000) : Calls Try.prog 36 #[ptr g, .int .i64 (n : Int)] w fun e w' => e = .returned (.int .u64 ((l.gen * 1048576 + n + 1 : Nat) : Int)) ∧ w = w' := by
  obtain ⟨_, _, _, c3, _⟩ := h.cell
  clear h
  unfold ptr
  go_enter Try.func36, Try.ntmps36
  go_wp2
  go_ret
  exact ⟨ret_int (by omega), rfl⟩
theorem sectors_ln (h : LnAt w X dg d g l kv) (hf : l.len ≤ 14336) : Calls Try.prog 80 #[ptr g] w fun e w' => e = .returned (.int .i64 (l.nsec : Int)) ∧ w = w' := by
  obtain ⟨_, _, _, _, _, c5, _, _⟩ := h.cell
  obtain ⟨A, c, rfl, hr, _⟩ := h.kept
  clear h hr
  unfold Ln.len at hf
  unfold ptr
  go_enter Try.func80, Try.ntmps80
  go_wp2
  go_ret
  exact ⟨ret_int (by unfold Ln.nsec; omega), rfl⟩
theorem sector_ln (h : LnAt w X dg d g l kv) (hg : l.bank ≤ 1) (i : Nat) (hn : i ≤ 20000) : Calls Try.prog 90 #[ptr g, .int .i64 (i : Int)] w fun e w' => e = .returned (.int .i64 (l.sec i : Int)) ∧ w = w' := by
  obtain ⟨_, _, c2, _⟩ := h.cell
  clear h
  unfold ptr
  go_enter Try.func90, Try.ntmps90
  go_wp2
  go_ret
  exact ⟨ret_int (by unfold Ln.sec; omega), rfl⟩
end
end
section
/- Contracts: a lane's read, write. -/
open Go.RowKit
set_option maxRecDepth 20000
set_option linter.unusedSimpArgs false
set_option linter.unusedVariables false

/-- A sector's bytes, and no error. -/
def Say.two (b : Sec) : Say := ⟨fun w v => ∃ A c, v = .tuple #[.slice A 64 c, .int .i64 0] ∧ Rd w (.slice A 64 c) (u8s b), fun _ _ _ ⟨A, c, e, h⟩ hb => ⟨A, c, e, h.below hb⟩⟩
theorem read_two {w : World} {Y : Nat → Prop} {dg : Nat} {d : Ds} {r s : Int} {b : Sec} (h : Many w Y [(dg, d)]) (hn : d.rd? r s = some b) :
    Calls Try.prog 44 #[ptr dg, .int .i64 r, .int .i64 s] w fun e w' => ∃ v, e = .returned v ∧ (Say.two b).p w' v ∧ Below w.heap.size w w' := by
  refine (read_many (i := 0) h rfl r s hn).mono ?_
  rintro e w' ⟨rfl, hl, hb, _, hbl⟩
  exact ⟨_, rfl, ⟨_, _, rfl, hb.rd8 hl.symm (Nat.le_refl _)⟩, hbl⟩
theorem read_ln {w : World} {X : Nat → Prop} {dg : Nat} {d : Ds} {g : Nat} {l : Ln} {kv : Value} (h : LnAt w X dg d g l kv) (hf : l.Fit) (j : Nat) (hi : j ≤ 20000) {b : Sec} (hb2 : d.rd? (l.r : Int) (l.sec j : Int) = some b) (hb64 : b.length = 64) :
    Calls Try.prog 69 #[ptr g, .int .i64 (j : Int)] w fun e w' => ∃ A c, e = .returned (.tuple #[.slice A 64 c, .int .i64 0]) ∧ Rd w' (.slice A 64 c) (u8s b) ∧ Below w.heap.size w w' := by
  have H0 := hide h
  obtain ⟨KA, kc, rfl, _⟩ := id h.kept
  clear h
  go_enter Try.func69, Try.ntmps69
  unfold ptr
  go_wp2
  refine region_grows [Say.is (.pointer (some ⟨g, 0, none⟩)), Say.is (.pointer (some ⟨g, 0, none⟩)), Say.is (.pointer (some ⟨g, 0, none⟩)), Say.is (ptr dg), Say.is (.pointer (some ⟨g, 0, none⟩)), Say.is (.pointer (some ⟨g, 0, none⟩)), Say.is (.pointer (some ⟨g, 1, none⟩)), Say.is (.int .i64 (l.r : Int)), Say.is (.pointer (some ⟨g, 0, none⟩)), Say.is (.int .i64 (j : Int)), Say.is (.int .i64 (l.sec j : Int)), Say.two b, Say.rd 64 (b), Say.is (.int .i64 0), Say.rd 64 (b), Say.is (.int .i64 0)] (by kernel_rfl) (by kernel_rfl) (by kernel_rfl) (by kernel_rfl) ?_ ?_
  · intro i o ho a w2 hb hsz old dep
    match i, ho with
    | 0, ho =>
      obtain rfl := Option.some.inj ho
      have o0 : a.tmps.getD 0 undef = _ := old 0 (by kernel_rfl)
      rw [if_pos (wanted_none rfl)]
      refine grow_same (v := .pointer (some ⟨g, 0, none⟩)) ?_ rfl
      clear old dep ho hsz hb
      go_simp
    | 1, ho =>
      obtain rfl := Option.some.inj ho
      have d0 : a.tmps.getD 6 undef = .pointer (some ⟨g, 0, none⟩) := dep 0 _ _ (by kernel_rfl) rfl rfl
      have e0 : a.tmps[6]?.getD undef = _ := (Array.getD_eq_getD_getElem? ..).symm.trans d0
      rw [if_pos (wanted_none rfl)]
      refine grow_same (v := .pointer (some ⟨g, 0, none⟩)) ?_ rfl
      clear old dep ho hsz hb
      go_simp
    | 2, ho =>
      obtain rfl := Option.some.inj ho
      have d1 : a.tmps.getD 7 undef = .pointer (some ⟨g, 0, none⟩) := dep 1 _ _ (by kernel_rfl) rfl rfl
      have e1 : a.tmps[7]?.getD undef = _ := (Array.getD_eq_getD_getElem? ..).symm.trans d1
      rw [if_pos (wanted_none rfl)]
      refine grow_same (v := .pointer (some ⟨g, 0, none⟩)) ?_ rfl
      clear old dep ho hsz hb
      go_simp
    | 3, ho =>
      obtain rfl := Option.some.inj ho
      have d2 : a.tmps.getD 8 undef = .pointer (some ⟨g, 0, none⟩) := dep 2 _ _ (by kernel_rfl) rfl rfl
      have e2 : a.tmps[8]?.getD undef = _ := (Array.getD_eq_getD_getElem? ..).symm.trans d2
      rw [if_pos (wanted_none rfl)]
      obtain ⟨hc0, hc1, hc2, hc3, hc4, hc5, hc6, hc7⟩ := (H0.out.below hb).cell
      refine grow_same (v := ptr dg) ?_ rfl
      clear old dep ho hsz hb
      go_simp
    | 4, ho =>
      obtain rfl := Option.some.inj ho
      have o0 : a.tmps.getD 0 undef = _ := old 0 (by kernel_rfl)
      rw [if_pos (wanted_none rfl)]
      refine grow_same (v := .pointer (some ⟨g, 0, none⟩)) ?_ rfl
      clear old dep ho hsz hb
      go_simp
    | 5, ho =>
      obtain rfl := Option.some.inj ho
      have d4 : a.tmps.getD 10 undef = .pointer (some ⟨g, 0, none⟩) := dep 4 _ _ (by kernel_rfl) rfl rfl
      have e4 : a.tmps[10]?.getD undef = _ := (Array.getD_eq_getD_getElem? ..).symm.trans d4
      rw [if_pos (wanted_none rfl)]
      refine grow_same (v := .pointer (some ⟨g, 0, none⟩)) ?_ rfl
      clear old dep ho hsz hb
      go_simp
    | 6, ho =>
      obtain rfl := Option.some.inj ho
      have d5 : a.tmps.getD 11 undef = .pointer (some ⟨g, 0, none⟩) := dep 5 _ _ (by kernel_rfl) rfl rfl
      have e5 : a.tmps[11]?.getD undef = _ := (Array.getD_eq_getD_getElem? ..).symm.trans d5
      rw [if_pos (wanted_none rfl)]
      refine grow_same (v := .pointer (some ⟨g, 1, none⟩)) ?_ rfl
      clear old dep ho hsz hb
      go_simp
    | 7, ho =>
      obtain rfl := Option.some.inj ho
      have d6 : a.tmps.getD 12 undef = .pointer (some ⟨g, 1, none⟩) := dep 6 _ _ (by kernel_rfl) rfl rfl
      have e6 : a.tmps[12]?.getD undef = _ := (Array.getD_eq_getD_getElem? ..).symm.trans d6
      rw [if_pos (wanted_none rfl)]
      obtain ⟨hc0, hc1, hc2, hc3, hc4, hc5, hc6, hc7⟩ := (H0.out.below hb).cell
      refine grow_same (v := .int .i64 (l.r : Int)) ?_ rfl
      clear old dep ho hsz hb
      go_simp
    | 8, ho =>
      obtain rfl := Option.some.inj ho
      have o0 : a.tmps.getD 0 undef = _ := old 0 (by kernel_rfl)
      rw [if_pos (wanted_none rfl)]
      refine grow_same (v := .pointer (some ⟨g, 0, none⟩)) ?_ rfl
      clear old dep ho hsz hb
      go_simp
    | 9, ho =>
      obtain rfl := Option.some.inj ho
      have o1 : a.tmps.getD 1 undef = _ := old 1 (by kernel_rfl)
      rw [if_pos (wanted_none rfl)]
      refine grow_same (v := .int .i64 (j : Int)) ?_ rfl
      clear old dep ho hsz hb
      go_simp
    | 10, ho =>
      obtain rfl := Option.some.inj ho
      have d8 : a.tmps.getD 14 undef = .pointer (some ⟨g, 0, none⟩) := dep 8 _ _ (by kernel_rfl) rfl rfl
      have e8 : a.tmps[14]?.getD undef = _ := (Array.getD_eq_getD_getElem? ..).symm.trans d8
      have d9 : a.tmps.getD 15 undef = .int .i64 (j : Int) := dep 9 _ _ (by kernel_rfl) rfl rfl
      have e9 : a.tmps[15]?.getD undef = _ := (Array.getD_eq_getD_getElem? ..).symm.trans d9
      rw [if_pos (wanted_none rfl)]
      refine grow_enters (f := 90) (args := #[.pointer (some ⟨g, 0, none⟩), .int .i64 (j : Int)]) ?_ ((sector_ln (H0.out.below hb) hf.bank j hi).mono (by rintro e w' ⟨rfl, rfl⟩; exact ⟨_, rfl, rfl, Below.refl _ _⟩))
      clear old dep ho hsz hb
      go_simp
    | 11, ho =>
      obtain rfl := Option.some.inj ho
      have d3 : a.tmps.getD 9 undef = ptr dg := dep 3 _ _ (by kernel_rfl) rfl rfl
      have e3 : a.tmps[9]?.getD undef = _ := (Array.getD_eq_getD_getElem? ..).symm.trans d3
      have d7 : a.tmps.getD 13 undef = .int .i64 (l.r : Int) := dep 7 _ _ (by kernel_rfl) rfl rfl
      have e7 : a.tmps[13]?.getD undef = _ := (Array.getD_eq_getD_getElem? ..).symm.trans d7
      have d10 : a.tmps.getD 16 undef = .int .i64 (l.sec j : Int) := dep 10 _ _ (by kernel_rfl) rfl rfl
      have e10 : a.tmps[16]?.getD undef = _ := (Array.getD_eq_getD_getElem? ..).symm.trans d10
      rw [if_pos (wanted_none rfl)]
      refine grow_enters (f := 44) (args := #[ptr dg, .int .i64 (l.r : Int), .int .i64 (l.sec j : Int)]) ?_ (read_two (H0.out.below hb).many hb2)
      clear old dep ho hsz hb
      go_simp
    | 12, ho =>
      obtain rfl := Option.some.inj ho
      have s11 : (Say.two b).p w2 (a.tmps.getD 17 undef) := dep 11 _ _ (by kernel_rfl) rfl rfl
      rw [if_pos (wanted_none rfl)]
      obtain ⟨A, c, e17, h17⟩ := s11
      refine grow_same (v := .slice A 64 c) ?_ ⟨A, c, rfl, h17⟩
      rw [Array.getD_eq_getD_getElem?] at e17
      clear old dep ho hsz hb
      go_simp
    | 13, ho =>
      obtain rfl := Option.some.inj ho
      have s11 : (Say.two b).p w2 (a.tmps.getD 17 undef) := dep 11 _ _ (by kernel_rfl) rfl rfl
      rw [if_pos (wanted_none rfl)]
      obtain ⟨A, c, e17, h17⟩ := s11
      rw [Array.getD_eq_getD_getElem?] at e17
      refine grow_same (v := .int .i64 0) ?_ rfl
      clear old dep ho hsz hb
      go_simp
    | 14, ho =>
      obtain rfl := Option.some.inj ho
      obtain ⟨A12, C12, d12, r12⟩ : ∃ A c, a.tmps.getD 18 undef = .slice A 64 c ∧ Rd w2 (.slice A 64 c) (u8s (b)) := dep 12 _ _ (by kernel_rfl) rfl rfl
      have e12 : a.tmps[18]?.getD undef = _ := (Array.getD_eq_getD_getElem? ..).symm.trans d12
      rw [if_pos (wanted_none rfl)]
      refine grow_same (v := .slice A12 64 C12) ?_ ⟨_, _, rfl, r12⟩
      clear old dep ho hsz hb r12
      go_simp
    | 15, ho =>
      obtain rfl := Option.some.inj ho
      have d13 : a.tmps.getD 19 undef = .int .i64 0 := dep 13 _ _ (by kernel_rfl) rfl rfl
      have e13 : a.tmps[19]?.getD undef = _ := (Array.getD_eq_getD_getElem? ..).symm.trans d13
      rw [if_pos (wanted_none rfl)]
      refine grow_same (v := .int .i64 0) ?_ rfl
      clear old dep ho hsz hb
      go_simp
    | i + 16, ho => exact absurd ho (by simp)
  · intro a w2 hb hsz hdf fin keep
    obtain ⟨tm, df⟩ := a
    have hx := frame_of [6, 7, 8, 9, 10, 11, 12, 13, 14, 15, 16, 17, 18, 19, 4, 5] (by kernel_rfl) hsz keep
    dsimp only at hdf hx
    simp only [List.foldl_cons, List.foldl_nil] at hx
    subst hdf
    clear hsz keep
    have kn : tm.getD 6 undef = .pointer (some ⟨g, 0, none⟩) := fin 0 _ _ rfl rfl
    rw [kn] at hx
    clear kn
    have kn : tm.getD 7 undef = .pointer (some ⟨g, 0, none⟩) := fin 1 _ _ rfl rfl
    rw [kn] at hx
    clear kn
    have kn : tm.getD 8 undef = .pointer (some ⟨g, 0, none⟩) := fin 2 _ _ rfl rfl
    rw [kn] at hx
    clear kn
    have kn : tm.getD 9 undef = ptr dg := fin 3 _ _ rfl rfl
    rw [kn] at hx
    clear kn
    have kn : tm.getD 10 undef = .pointer (some ⟨g, 0, none⟩) := fin 4 _ _ rfl rfl
    rw [kn] at hx
    clear kn
    have kn : tm.getD 11 undef = .pointer (some ⟨g, 0, none⟩) := fin 5 _ _ rfl rfl
    rw [kn] at hx
    clear kn
    have kn : tm.getD 12 undef = .pointer (some ⟨g, 1, none⟩) := fin 6 _ _ rfl rfl
    rw [kn] at hx
    clear kn
    have kn : tm.getD 13 undef = .int .i64 (l.r : Int) := fin 7 _ _ rfl rfl
    rw [kn] at hx
    clear kn
    have kn : tm.getD 14 undef = .pointer (some ⟨g, 0, none⟩) := fin 8 _ _ rfl rfl
    rw [kn] at hx
    clear kn
    have kn : tm.getD 15 undef = .int .i64 (j : Int) := fin 9 _ _ rfl rfl
    rw [kn] at hx
    clear kn
    have kn : tm.getD 16 undef = .int .i64 (l.sec j : Int) := fin 10 _ _ rfl rfl
    rw [kn] at hx
    clear kn
    generalize tm.getD 17 undef = y17 at hx
    obtain ⟨A18, C18, kn, R18⟩ : ∃ A c, tm.getD 18 undef = .slice A 64 c ∧ Rd w2 (.slice A 64 c) (u8s (b)) := fin 12 _ _ rfl rfl
    rw [kn] at hx
    clear kn
    clear R18
    have kn : tm.getD 19 undef = .int .i64 0 := fin 13 _ _ rfl rfl
    rw [kn] at hx
    clear kn
    obtain ⟨A4, C4, kn, R4⟩ : ∃ A c, tm.getD 4 undef = .slice A 64 c ∧ Rd w2 (.slice A 64 c) (u8s (b)) := fin 14 _ _ rfl rfl
    rw [kn] at hx
    clear kn
    have kn : tm.getD 5 undef = .int .i64 0 := fin 15 _ _ rfl rfl
    rw [kn] at hx
    clear kn
    clear fin
    simp only [List.setIfInBounds_toArray, List.set_cons_succ, List.set_cons_zero] at hx
    subst hx
    go_wp2
    go_ret2
    exact ⟨_, _, rfl, R4, hb⟩

theorem write_lane {w w2 : World} {X : Nat → Prop} {dg : Nat} {d : Ds} {g : Nat} {l : Ln} {kv : Value} (h : LnAt w2 X dg d g l kv) (hs : Small d 1000000) {n : Nat} {b : List UInt8} (hn : b.length = n) (r s : Int) {A : Option Addr} {c : Nat} (hv : Rd w2 (.slice A n c) (u8s b)) (hb : Below w.heap.size w w2) :
    Calls Try.prog 19 #[ptr dg, .int .i64 r, .int .i64 s, .slice A n c] w2 fun e w' => ∃ v, e = .returned v ∧ v = .int .i64 (d.wrCode r s n) ∧ LnAt w' X dg (d.wr r s b) g l kv ∧ Out (LX X g kv) w w' := by
  subst hn
  refine (write_many (i := 0) h.many rfl hs r s A c b hv).mono ?_
  rintro e w' ⟨rfl, hm, ho⟩
  exact ⟨_, rfl, rfl, h.turned hm ho, (Out.of_below hb).trans ho⟩
theorem write_ln {w : World} {X : Nat → Prop} {dg : Nat} {d : Ds} {g : Nat} {l : Ln} {kv : Value} (h : LnAt w X dg d g l kv) (hf : l.Fit) (hs : Small d 1000000) (j : Nat) (hi : j ≤ 20000) {n : Nat} {b : List UInt8} (hn : b.length = n) {A : Option Addr} {c : Nat} (hv : Rd w (.slice A n c) (u8s b)) :
    Calls Try.prog 81 #[ptr g, .int .i64 (j : Int), .slice A n c] w fun e w' => ∃ v, e = .returned v ∧ v = .int .i64 (d.wrCode (l.r : Int) (l.sec j : Int) n) ∧ LnAt w' X dg (d.wr (l.r : Int) (l.sec j : Int) b) g l kv ∧ Out (LX X g kv) w w' := by
  have H0 := hide h
  obtain ⟨KA, kc, rfl, _⟩ := id h.kept
  clear h
  go_enter Try.func81, Try.ntmps81
  unfold ptr
  go_wp2
  refine region_last 12 19 [Say.is (.pointer (some ⟨g, 0, none⟩)), Say.is (.pointer (some ⟨g, 0, none⟩)), Say.is (.pointer (some ⟨g, 0, none⟩)), Say.is (ptr dg), Say.is (.pointer (some ⟨g, 0, none⟩)), Say.is (.pointer (some ⟨g, 0, none⟩)), Say.is (.pointer (some ⟨g, 1, none⟩)), Say.is (.int .i64 (l.r : Int)), Say.is (.pointer (some ⟨g, 0, none⟩)), Say.is (.int .i64 (j : Int)), Say.is (.int .i64 (l.sec j : Int)), Say.is (.slice A n c)] (fun v w' => v = .int .i64 (d.wrCode (l.r : Int) (l.sec j : Int) n) ∧ LnAt w' X dg (d.wr (l.r : Int) (l.sec j : Int) b) g l (.slice KA l.kept.length kc) ∧ Out (LX X g (.slice KA l.kept.length kc)) w w') rfl rfl rfl (by kernel_rfl) (by kernel_rfl) (by kernel_rfl) (by kernel_rfl) (by kernel_rfl) ?_ ?_ ?_ ?_
  · intro i o hik ho a w2 hb hsz old dep
    match i, ho with
    | 0, ho =>
      obtain rfl := Option.some.inj ho
      have o0 : a.tmps.getD 0 undef = _ := old 0 (by kernel_rfl)
      rw [if_pos (wanted_none rfl)]
      refine grow_same (v := .pointer (some ⟨g, 0, none⟩)) ?_ rfl
      clear old dep ho hsz hb
      go_simp
    | 1, ho =>
      obtain rfl := Option.some.inj ho
      have d0 : a.tmps.getD 7 undef = .pointer (some ⟨g, 0, none⟩) := dep 0 _ _ (by kernel_rfl) rfl rfl
      have e0 : a.tmps[7]?.getD undef = _ := (Array.getD_eq_getD_getElem? ..).symm.trans d0
      rw [if_pos (wanted_none rfl)]
      refine grow_same (v := .pointer (some ⟨g, 0, none⟩)) ?_ rfl
      clear old dep ho hsz hb
      go_simp
    | 2, ho =>
      obtain rfl := Option.some.inj ho
      have d1 : a.tmps.getD 8 undef = .pointer (some ⟨g, 0, none⟩) := dep 1 _ _ (by kernel_rfl) rfl rfl
      have e1 : a.tmps[8]?.getD undef = _ := (Array.getD_eq_getD_getElem? ..).symm.trans d1
      rw [if_pos (wanted_none rfl)]
      refine grow_same (v := .pointer (some ⟨g, 0, none⟩)) ?_ rfl
      clear old dep ho hsz hb
      go_simp
    | 3, ho =>
      obtain rfl := Option.some.inj ho
      have d2 : a.tmps.getD 9 undef = .pointer (some ⟨g, 0, none⟩) := dep 2 _ _ (by kernel_rfl) rfl rfl
      have e2 : a.tmps[9]?.getD undef = _ := (Array.getD_eq_getD_getElem? ..).symm.trans d2
      rw [if_pos (wanted_none rfl)]
      obtain ⟨hc0, hc1, hc2, hc3, hc4, hc5, hc6, hc7⟩ := (H0.out.below hb).cell
      refine grow_same (v := ptr dg) ?_ rfl
      clear old dep ho hsz hb
      go_simp
    | 4, ho =>
      obtain rfl := Option.some.inj ho
      have o0 : a.tmps.getD 0 undef = _ := old 0 (by kernel_rfl)
      rw [if_pos (wanted_none rfl)]
      refine grow_same (v := .pointer (some ⟨g, 0, none⟩)) ?_ rfl
      clear old dep ho hsz hb
      go_simp
    | 5, ho =>
      obtain rfl := Option.some.inj ho
      have d4 : a.tmps.getD 11 undef = .pointer (some ⟨g, 0, none⟩) := dep 4 _ _ (by kernel_rfl) rfl rfl
      have e4 : a.tmps[11]?.getD undef = _ := (Array.getD_eq_getD_getElem? ..).symm.trans d4
      rw [if_pos (wanted_none rfl)]
      refine grow_same (v := .pointer (some ⟨g, 0, none⟩)) ?_ rfl
      clear old dep ho hsz hb
      go_simp
    | 6, ho =>
      obtain rfl := Option.some.inj ho
      have d5 : a.tmps.getD 12 undef = .pointer (some ⟨g, 0, none⟩) := dep 5 _ _ (by kernel_rfl) rfl rfl
      have e5 : a.tmps[12]?.getD undef = _ := (Array.getD_eq_getD_getElem? ..).symm.trans d5
      rw [if_pos (wanted_none rfl)]
      refine grow_same (v := .pointer (some ⟨g, 1, none⟩)) ?_ rfl
      clear old dep ho hsz hb
      go_simp
    | 7, ho =>
      obtain rfl := Option.some.inj ho
      have d6 : a.tmps.getD 13 undef = .pointer (some ⟨g, 1, none⟩) := dep 6 _ _ (by kernel_rfl) rfl rfl
      have e6 : a.tmps[13]?.getD undef = _ := (Array.getD_eq_getD_getElem? ..).symm.trans d6
      rw [if_pos (wanted_none rfl)]
      obtain ⟨hc0, hc1, hc2, hc3, hc4, hc5, hc6, hc7⟩ := (H0.out.below hb).cell
      refine grow_same (v := .int .i64 (l.r : Int)) ?_ rfl
      clear old dep ho hsz hb
      go_simp
    | 8, ho =>
      obtain rfl := Option.some.inj ho
      have o0 : a.tmps.getD 0 undef = _ := old 0 (by kernel_rfl)
      rw [if_pos (wanted_none rfl)]
      refine grow_same (v := .pointer (some ⟨g, 0, none⟩)) ?_ rfl
      clear old dep ho hsz hb
      go_simp
    | 9, ho =>
      obtain rfl := Option.some.inj ho
      have o1 : a.tmps.getD 1 undef = _ := old 1 (by kernel_rfl)
      rw [if_pos (wanted_none rfl)]
      refine grow_same (v := .int .i64 (j : Int)) ?_ rfl
      clear old dep ho hsz hb
      go_simp
    | 10, ho =>
      obtain rfl := Option.some.inj ho
      have d8 : a.tmps.getD 15 undef = .pointer (some ⟨g, 0, none⟩) := dep 8 _ _ (by kernel_rfl) rfl rfl
      have e8 : a.tmps[15]?.getD undef = _ := (Array.getD_eq_getD_getElem? ..).symm.trans d8
      have d9 : a.tmps.getD 16 undef = .int .i64 (j : Int) := dep 9 _ _ (by kernel_rfl) rfl rfl
      have e9 : a.tmps[16]?.getD undef = _ := (Array.getD_eq_getD_getElem? ..).symm.trans d9
      rw [if_pos (wanted_none rfl)]
      refine grow_enters (f := 90) (args := #[.pointer (some ⟨g, 0, none⟩), .int .i64 (j : Int)]) ?_ ((sector_ln (H0.out.below hb) hf.bank j hi).mono (by rintro e w' ⟨rfl, rfl⟩; exact ⟨_, rfl, rfl, Below.refl _ _⟩))
      clear old dep ho hsz hb
      go_simp
    | 11, ho =>
      obtain rfl := Option.some.inj ho
      have o2 : a.tmps.getD 2 undef = _ := old 2 (by kernel_rfl)
      rw [if_pos (wanted_none rfl)]
      refine grow_same (v := .slice A n c) ?_ rfl
      clear old dep ho hsz hb
      go_simp
    | i + 12, ho => exact absurd hik (by omega)
  · intro a w2 hb hsz old dep
    have d3 : a.tmps.getD 10 undef = ptr dg := dep 3 _ _ (by kernel_rfl) rfl rfl
    have e3 : a.tmps[10]?.getD undef = _ := (Array.getD_eq_getD_getElem? ..).symm.trans d3
    have d7 : a.tmps.getD 14 undef = .int .i64 (l.r : Int) := dep 7 _ _ (by kernel_rfl) rfl rfl
    have e7 : a.tmps[14]?.getD undef = _ := (Array.getD_eq_getD_getElem? ..).symm.trans d7
    have d10 : a.tmps.getD 17 undef = .int .i64 (l.sec j : Int) := dep 10 _ _ (by kernel_rfl) rfl rfl
    have e10 : a.tmps[17]?.getD undef = _ := (Array.getD_eq_getD_getElem? ..).symm.trans d10
    have d11 : a.tmps.getD 18 undef = .slice A n c := dep 11 _ _ (by kernel_rfl) rfl rfl
    have e11 : a.tmps[18]?.getD undef = _ := (Array.getD_eq_getD_getElem? ..).symm.trans d11
    refine last_enters (f := 19) (args := #[ptr dg, .int .i64 (l.r : Int), .int .i64 (l.sec j : Int), .slice A n c]) ?_ (write_lane (H0.out.below hb) hs hn _ _ (hv.below hb) hb)
    clear old dep hsz hb
    go_simp
  · intro i o hki ho
    have hin : i < 14 := (Array.getElem?_eq_some_iff.1 ho).1
    obtain rfl : i = 13 := by omega
    obtain rfl := Option.some.inj ho
    refine ⟨rfl, fun a w => ?_⟩
    rw [Array.getD_eq_getD_getElem?]
    clear hki ho hin
    go_simp
  · intro a w2 v hR hsz hdf hk fin keep
    obtain ⟨tm, df⟩ := a
    have hx := frame_of [7, 8, 9, 10, 11, 12, 13, 14, 15, 16, 17, 18, 19, 6] (by kernel_rfl) hsz keep
    dsimp only at hdf hx hk
    simp only [List.foldl_cons, List.foldl_nil] at hx
    subst hdf
    clear hsz keep
    rw [hk] at hx
    clear hk
    generalize tm.getD 7 undef = y7 at hx
    generalize tm.getD 8 undef = y8 at hx
    generalize tm.getD 9 undef = y9 at hx
    generalize tm.getD 10 undef = y10 at hx
    generalize tm.getD 11 undef = y11 at hx
    generalize tm.getD 12 undef = y12 at hx
    generalize tm.getD 13 undef = y13 at hx
    generalize tm.getD 14 undef = y14 at hx
    generalize tm.getD 15 undef = y15 at hx
    generalize tm.getD 16 undef = y16 at hx
    generalize tm.getD 17 undef = y17 at hx
    generalize tm.getD 18 undef = y18 at hx
    have kn : tm.getD 6 undef = v := fin 13 _ _ (by decide) rfl rfl
    rw [kn] at hx
    clear kn
    clear fin
    simp only [List.setIfInBounds_toArray, List.set_cons_succ, List.set_cons_zero] at hx
    subst hx
    go_wp2
    go_ret
    exact ⟨_, rfl, hR⟩
end
section
/- A bank's sectors and the bytes that they stand for (plain data; nothing of the program). -/
open Go.RowKit
set_option maxRecDepth 20000

/-- The bytes that sector i of a stream has. -/
def chunk (F : List UInt8) (i : Nat) : List UInt8 := (F.drop (56 * i)).take 56
/-- What is written of them. -/
def secRaw (gen : Nat) (b : List UInt8) : List UInt8 := be 4 gen ++ ([UInt8.ofNat b.length] ++ ([0, 0, 0] ++ b))
def secOf (gen : Nat) (b : List UInt8) : Sec := pad (secRaw gen b)
/-- The generation that a sector tells. -/
def gn (s : Sec) : Nat := val (s.take 4)
/-- The bytes of a sector. -/
def ld (gen : Nat) (s : Sec) : List UInt8 := if gn s = gen then (if (s.getD 4 0).toNat ≤ 56 then (s.drop 8).take (s.getD 4 0).toNat else []) else []
/-- The stream of a bank. -/
def strm (gen : Nat) : List Sec → List UInt8
  | [] => []
  | s :: ss => if (ld gen s).length < 56 then ld gen s else ld gen s ++ strm gen ss

theorem secRaw_length (gen : Nat) (b : List UInt8) : (secRaw gen b).length = 8 + b.length := by
  simp [secRaw, be_length]
  omega
theorem secOf_length (gen : Nat) (b : List UInt8) (h : b.length ≤ 56) : (secOf gen b).length = 64 := pad_length _ (by rw [secRaw_length]; omega)
theorem secOf_eq (gen : Nat) (b : List UInt8) : secOf gen b = be 4 gen ++ ([UInt8.ofNat b.length] ++ ([0, 0, 0] ++ (b ++ List.replicate (56 - b.length) 0))) := by
  unfold secOf pad
  rw [secRaw_length]
  simp only [secRaw, List.append_assoc]
  congr 5
  omega
theorem take_be (n x : Nat) (l : List UInt8) : (be n x ++ l).take n = be n x := by
  conv => lhs; rw [show n = (be n x).length from (be_length n x).symm]
  rw [be_length]
  conv => lhs; arg 1; rw [← be_length n x]
  exact List.take_left
theorem gn_secOf (gen : Nat) (b : List UInt8) (hg : gen < 4294967296) : gn (secOf gen b) = gen := by
  unfold gn
  rw [secOf_eq, take_be, val_be]
  omega
theorem gn_zsec : gn zsec = 0 := by decide
theorem getD_secOf (gen : Nat) (b : List UInt8) : (secOf gen b).getD 4 0 = UInt8.ofNat b.length := by
  rw [secOf_eq, List.getD_eq_getElem?_getD, List.getElem?_append_right (by rw [be_length]; omega), be_length]
  rfl
theorem drop_secOf (gen : Nat) (b : List UInt8) : (secOf gen b).drop 8 = b ++ List.replicate (56 - b.length) 0 := by
  rw [secOf_eq]
  rw [show (8 : Nat) = (be 4 gen).length + 4 by rw [be_length], List.drop_append]
  rfl
theorem ld_secOf (gen : Nat) (b : List UInt8) (hg : gen < 4294967296) (hb : b.length ≤ 56) : ld gen (secOf gen b) = b := by
  unfold ld
  rw [if_pos (gn_secOf gen b hg), getD_secOf, UInt8.toNat_ofNat', Nat.mod_eq_of_lt (by omega), if_pos hb, drop_secOf]
  exact List.take_left
theorem ld_other (gen : Nat) (s : Sec) (h : gn s ≠ gen) : ld gen s = [] := by unfold ld; rw [if_neg h]
theorem ld_le (gen : Nat) (s : Sec) : (ld gen s).length ≤ 56 := by
  unfold ld
  split
  · split
    · rw [List.length_take]; omega
    · simp
  · simp
theorem strm_le (gen : Nat) (B : List Sec) : (strm gen B).length ≤ 56 * B.length := by
  induction B with
  | nil => simp [strm]
  | cons s B ih =>
    have := ld_le gen s
    unfold strm
    rw [List.length_cons]
    split
    · omega
    · rw [List.length_append]; omega

theorem chunk_le (F : List UInt8) (i : Nat) : (chunk F i).length ≤ 56 := by unfold chunk; rw [List.length_take]; omega
theorem chunk_length (F : List UInt8) (i : Nat) : (chunk F i).length = min 56 (F.length - 56 * i) := by unfold chunk; rw [List.length_take, List.length_drop]
theorem chunk_succ (F : List UInt8) (i : Nat) : chunk F (i + 1) = chunk (F.drop 56) i := by
  unfold chunk
  rw [List.drop_drop, show 56 * (i + 1) = 56 + 56 * i by omega]
theorem chunk_zero (F : List UInt8) : chunk F 0 = F.take 56 := rfl
theorem chunk_drop (F : List UInt8) (i j : Nat) : chunk (F.drop (56 * j)) i = chunk F (j + i) := by
  unfold chunk
  rw [List.drop_drop, show 56 * (j + i) = 56 * j + 56 * i by omega]
/-- Of a beginning. -/
theorem chunk_take (F : List UInt8) (m i : Nat) : chunk (F.take m) i = (chunk F i).take (m - 56 * i) := by
  unfold chunk
  rw [List.drop_take, List.take_take, List.take_take, Nat.min_comm]
theorem chunk_full (F : List UInt8) (m i : Nat) (h : 56 * (i + 1) ≤ m) : chunk (F.take m) i = chunk F i := by
  rw [chunk_take, List.take_of_length_le]
  have := chunk_le F i
  omega

/-- A bank that has just these bytes, and nothing of that generation behind. -/
def Holds (gen : Nat) (B : List Sec) (F : List UInt8) : Prop := ∀ i s, B[i]? = some s → if 56 * i < F.length then s = secOf gen (chunk F i) else gn s ≠ gen
/-- A bank whose stream is these bytes. -/
def Good (gen : Nat) (B : List Sec) (F : List UInt8) : Prop := strm gen B = F ∧ ∀ i s, B[i]? = some s → 56 * i < F.length → s = secOf gen (chunk F i)
/-- A bank whose sectors are those of F' or of F. -/
def Mixed (gen : Nat) (B : List Sec) (F F' : List UInt8) : Prop :=
  ∀ i s, B[i]? = some s → (s = secOf gen (chunk F' i) ∧ 56 * i < F'.length) ∨ (if 56 * i < F.length then s = secOf gen (chunk F i) else gn s ≠ gen)
theorem Holds.mixed {gen : Nat} {B : List Sec} {F F' : List UInt8} (h : Holds gen B F) : Mixed gen B F F' := fun i s hs => .inr (h i s hs)

theorem Mixed.good {gen : Nat} (hg : gen < 4294967296) : ∀ {B : List Sec} {F F' : List UInt8}, Mixed gen B F F' → F <+: F' → F'.length ≤ 56 * B.length → ∃ m, F.length ≤ m ∧ m ≤ F'.length ∧ Good gen B (F'.take m)
  | [], F, F', _, hp, hl => ⟨0, by have := hp.length_le; rw [List.length_nil] at hl; omega, Nat.zero_le _, by simp [strm], fun i s hs => by simp at hs⟩
  | s :: B, F, F', h, hp, hl => by
    have h0 := h 0 s rfl
    rw [Nat.mul_zero] at h0
    -- the first sector is full
    have full : 56 ≤ F'.length → s = secOf gen (F'.take 56) → ∃ m, F.length ≤ m ∧ m ≤ F'.length ∧ Good gen (s :: B) (F'.take m) := by
      intro h56 hs
      have hm : Mixed gen B (F.drop 56) (F'.drop 56) := by
        intro i u hu
        have := h (i + 1) u (by simpa using hu)
        rw [chunk_succ, chunk_succ] at this
        rw [List.length_drop, List.length_drop]
        rcases this with ⟨h1, h2⟩ | h1
        · exact .inl ⟨h1, by omega⟩
        · right
          split at h1
          · rw [if_pos (by omega)]; exact h1
          · rw [if_neg (by omega)]; exact h1
      obtain ⟨t, rfl⟩ := hp
      obtain ⟨m, h1, h2, h3, h4⟩ := Mixed.good hg hm (by rw [List.drop_append]; exact List.prefix_append _ _) (by rw [List.length_drop]; rw [List.length_cons] at hl; omega)
      rw [List.length_drop] at h1 h2
      have hl56 : (List.take 56 (F ++ t)).length = 56 := by rw [List.length_take]; omega
      have hld : ld gen s = (F ++ t).take 56 := by rw [hs, ld_secOf gen _ hg (by omega)]
      have e : (F ++ t).take (56 + m) = (F ++ t).take 56 ++ ((F ++ t).drop 56).take m := by rw [List.take_add]
      refine ⟨56 + m, by omega, by omega, ?_, ?_⟩
      · unfold strm
        rw [hld, if_neg (by omega), h3, e]
      · intro i u hu hi
        cases i with
        | zero =>
          obtain rfl : s = u := by simpa using hu
          rw [hs, chunk_zero, List.take_take, Nat.min_eq_left (by omega)]
        | succ i =>
          have hu' : B[i]? = some u := by simpa using hu
          rw [List.length_take] at hi
          rw [h4 i u hu' (by rw [List.length_take, List.length_drop]; omega), chunk_succ]
          congr 2
          rw [List.drop_take, Nat.add_sub_cancel_left]
    rcases h0 with ⟨hs, hpos⟩ | h0
    · rw [chunk_zero] at hs
      rcases Nat.lt_or_ge F'.length 56 with h56 | h56
      · have e : F'.take 56 = F' := List.take_of_length_le (by omega)
        rw [e] at hs
        have hld : ld gen s = F' := by rw [hs, ld_secOf gen _ hg (by omega)]
        refine ⟨F'.length, hp.length_le, Nat.le_refl _, ?_⟩
        rw [List.take_length]
        refine ⟨?_, fun i u hu hi => ?_⟩
        · unfold strm
          rw [hld, if_pos h56]
        · obtain rfl : i = 0 := by omega
          obtain rfl : s = u := by simpa using hu
          rw [hs, chunk_zero, e]
      · exact full h56 hs
    · split at h0
      · rename_i hpos
        rw [chunk_zero] at h0
        rcases Nat.lt_or_ge F.length 56 with h56 | h56
        · have e : F.take 56 = F := List.take_of_length_le (by omega)
          rw [e] at h0
          have hld : ld gen s = F := by rw [h0, ld_secOf gen _ hg (by omega)]
          obtain ⟨t, rfl⟩ := hp
          refine ⟨F.length, Nat.le_refl _, by simp, ?_⟩
          rw [List.take_left]
          refine ⟨?_, fun i u hu hi => ?_⟩
          · unfold strm
            rw [hld, if_pos h56]
          · obtain rfl : i = 0 := by omega
            obtain rfl : s = u := by simpa using hu
            rw [h0, chunk_zero, e]
        · refine full (Nat.le_trans h56 hp.length_le) ?_
          obtain ⟨t, rfl⟩ := hp
          rw [h0, List.take_append_of_le_length (by omega)]
      · refine ⟨0, by omega, Nat.zero_le _, ?_⟩
        rw [List.take_zero]
        refine ⟨?_, fun i u hu hi => absurd hi (by simp)⟩
        unfold strm
        rw [ld_other gen s h0, if_pos (by simp)]
theorem Holds.good {gen : Nat} {B : List Sec} {F : List UInt8} (hg : gen < 4294967296) (h : Holds gen B F) (hl : F.length ≤ 56 * B.length) : Good gen B F := by
  obtain ⟨m, h1, h2, h3⟩ := Mixed.good hg (h.mixed (F' := F)) (List.prefix_refl _) hl
  obtain rfl : m = F.length := by omega
  rwa [List.take_length] at h3
/-- What opening leaves: the stream cut at e, written anew where it was cut, all behind of that generation wiped. -/
theorem Good.mend {gen e : Nat} {B B' : List Sec} {G : List UInt8} (h : Good gen B G) (he : e ≤ G.length) (hg : 0 < gen)
    (hB : ∀ i s, B'[i]? = some s → ∃ u, B[i]? = some u ∧ (if e ≤ 56 * i then (if gn u = gen then s = zsec else s = u) else if e < G.length ∧ e < 56 * (i + 1) then s = secOf gen (chunk (G.take e) i) else s = u)) : Holds gen B' (G.take e) := by
  intro i s hs
  obtain ⟨u, hu, hc⟩ := hB i s hs
  rw [List.length_take, Nat.min_eq_left he]
  by_cases h1 : e ≤ 56 * i
  · rw [if_pos h1] at hc
    rw [if_neg (by omega)]
    split at hc
    · rw [hc, gn_zsec]; omega
    · rename_i hn
      rw [hc]; exact hn
  · rw [if_neg h1] at hc
    rw [if_pos (by omega)]
    split at hc
    · exact hc
    · rename_i hn
      rw [hc, h.2 i u hu (by omega)]
      congr 1
      rcases Nat.lt_or_ge e G.length with h2 | h2
      · exact (chunk_full G e i (by omega)).symm
      · obtain rfl : e = G.length := by omega
        rw [List.take_length]
/-- What writing leaves: sectors of F' from the first one on that F doesn't fill. -/
theorem Holds.written {gen : Nat} {B B' : List Sec} {F F' : List UInt8} (h : Holds gen B F) (hp : F <+: F')
    (hB : ∀ i s, B'[i]? = some s → (s = secOf gen (chunk F' i) ∧ 56 * i < F'.length) ∨ B[i]? = some s ∧ (56 * (i + 1) ≤ F.length ∨ F'.length ≤ 56 * i)) : Holds gen B' F' := by
  intro i s hs
  rcases hB i s hs with ⟨h1, h2⟩ | ⟨h1, h2⟩
  · rw [if_pos h2]; exact h1
  · have h3 := h i s h1
    have hl := hp.length_le
    rcases h2 with h2 | h2
    · rw [if_pos (by omega)] at h3
      rw [if_pos (by omega), h3]
      congr 1
      obtain ⟨t, rfl⟩ := hp
      unfold chunk
      rw [List.drop_append_of_le_length (by omega), List.take_append_of_le_length (by rw [List.length_drop]; omega)]
    · rw [if_neg (by omega)] at h3
      rw [if_neg (by omega)]; exact h3
end
section
/- What a lane does to its region, as lists of writes and barriers; what a disk is behind it (plain data). -/
open Go.RowKit
set_option maxRecDepth 20000
set_option linter.unusedSimpArgs false
set_option linter.unusedVariables false

inductive Do where
  | w (s : Nat) (b : Sec)
  | bar
def Rg.go1 (g : Rg) : Do → Rg
  | .w s b => g.write s b
  | .bar => g.barrier
/-- One by one, till the region is down. -/
def Rg.run : Rg → List Do → Rg × Bool
  | g, [] => (g, true)
  | g, o :: os => if g.down then (g, false) else (g.go1 o).run os
def Rg.goes (g : Rg) (os : List Do) : Rg := os.foldl Rg.go1 g
/-- The error's number. -/
def cd (b : Bool) : Int := if b then 0 else 10
theorem run_nil (g : Rg) : g.run [] = (g, true) := rfl
theorem run_cons (g : Rg) (o : Do) (os : List Do) : g.run (o :: os) = if g.down then (g, false) else (g.go1 o).run os := rfl
theorem run_one (g : Rg) (o : Do) : g.run [o] = if g.down then (g, false) else (g.go1 o, true) := rfl
theorem run_append (a b : List Do) : ∀ g : Rg, g.run (a ++ b) = if (g.run a).2 then (g.run a).1.run b else g.run a := by
  induction a with
  | nil => intro g; rfl
  | cons o a ih =>
    intro g
    rw [List.cons_append, run_cons, run_cons]
    split
    · rfl
    · exact ih _
theorem run_yes {g g' : Rg} {a : List Do} (h : g.run a = (g', true)) (b : List Do) : g.run (a ++ b) = g'.run b := by rw [run_append, h]; rfl
theorem run_no {g g' : Rg} {a : List Do} (h : g.run a = (g', false)) (b : List Do) : g.run (a ++ b) = (g', false) := by rw [run_append, h]; rfl
/-- What was done is a beginning; all of it, if it went well; else the region is down. -/
theorem run_goes : ∀ (os : List Do) (g : Rg), ∃ k, k ≤ os.length ∧ (g.run os).1 = g.goes (os.take k) ∧ ((g.run os).2 = true → k = os.length) ∧ ((g.run os).2 = false → k < os.length ∧ (g.goes (os.take k)).down = true)
  | [], g => ⟨0, Nat.le_refl _, rfl, fun _ => rfl, fun h => (by cases h)⟩
  | o :: os, g => by
    rw [run_cons]
    split
    · rename_i hd
      exact ⟨0, Nat.zero_le _, rfl, fun h => (by cases h), fun _ => ⟨by simp, hd⟩⟩
    · obtain ⟨k, h1, h2, h3, h4⟩ := run_goes os (g.go1 o)
      refine ⟨k + 1, by simpa using h1, by rw [h2]; rfl, fun h => by rw [h3 h]; rfl, fun h => ?_⟩
      obtain ⟨h5, h6⟩ := h4 h
      exact ⟨by simpa using h5, h6⟩
theorem run_ok {g : Rg} {os : List Do} (h : (g.run os).2 = true) : (g.run os).1 = g.goes os := by
  obtain ⟨k, h1, h2, h3, _⟩ := run_goes os g
  rw [h2, h3 h, List.take_length]
/-- Where nothing is armed all goes well. -/
theorem run_up : ∀ (os : List Do) (g : Rg), g.armed = false → (g.run os).2 = true ∧ (g.run os).1.armed = false
  | [], g, h => ⟨rfl, h⟩
  | o :: os, g, h => by
    have hd : g.down = false := by simp [Rg.down, h]
    rw [run_cons, hd]
    refine run_up os _ ?_
    cases o <;> exact h
/-- What an operation is within. -/
def Do.Fit (n : Nat) : Do → Prop
  | .w s b => s < n ∧ b.length = 64
  | .bar => True
theorem go1_fit {n : Nat} {g : Rg} {o : Do} (h : g.Fit n) (ho : o.Fit n) : (g.go1 o).Fit n := by
  cases o with
  | w s b => exact h.write ho.1 ho.2
  | bar => exact h.barrier
theorem run_fit {n : Nat} : ∀ (os : List Do) (g : Rg), g.Fit n → (∀ o ∈ os, o.Fit n) → (g.run os).1.Fit n
  | [], _, h, _ => h
  | o :: os, g, h, ho => by
    rw [run_cons]
    split
    · exact h
    · exact run_fit os _ (go1_fit h (ho o (List.mem_cons_self ..))) (fun x hx => ho x (List.mem_cons_of_mem _ hx))

/-! ### The disk's region. -/
structure DIs (d : Ds) (r : Nat) (g : Rg) (k : Nat) : Prop where
  at_ : d.regs[r]? = some g
  size : 514 ≤ d.size
  fit : g.Fit d.size
  small : Small d k
structure Next (d : Ds) (r : Nat) (g : Rg) (k : Nat) (d' : Ds) : Prop where
  is : DIs d' r g k
  regs : d'.regs = d.regs.set r g
  same : d'.size = d.size
theorem DIs.more {d : Ds} {r : Nat} {g : Rg} {k k' : Nat} (h : DIs d r g k) (hk : k ≤ k') : DIs d r g k' := ⟨h.at_, h.size, h.fit, h.small.more hk⟩
theorem DIs.at {d : Ds} {r : Nat} {g : Rg} {k : Nat} (h : DIs d r g k) : d.at? (r : Int) = some g := by rw [at_nat]; exact h.at_
theorem DIs.next {d : Ds} {r : Nat} {g : Rg} {k : Nat} (h : DIs d r g k) : Next d r g k d := ⟨h, (set_same h.at_).symm, rfl⟩
theorem Next.trans {d d' d'' : Ds} {r : Nat} {g g' : Rg} {k k' : Nat} (h : Next d r g k d') (h' : Next d' r g' k' d'') : Next d r g' k' d'' := ⟨h'.is, by rw [h'.regs, h.regs, List.set_set], h'.same.trans h.same⟩
theorem Next.more {d d' : Ds} {r : Nat} {g : Rg} {k k' : Nat} (h : Next d r g k d') (hk : k ≤ k') : Next d r g k' d' := ⟨h.is.more hk, h.regs, h.same⟩
theorem DIs.rd {d : Ds} {r : Nat} {g : Rg} {k : Nat} (h : DIs d r g k) {s : Nat} (hs : s < d.size) : ∃ b, d.rd? (r : Int) (s : Int) = some b ∧ g.secs[s]? = some b ∧ b.length = 64 := by
  have hl := h.fit.secs_length
  refine ⟨g.secs[s]'(by omega), ?_, List.getElem?_eq_getElem _, h.fit.secs_full _ (List.getElem_mem _)⟩
  rw [rd_some h.at (by omega) (by omega), Int.toNat_natCast]
  exact List.getElem?_eq_getElem _
theorem DIs.write {d : Ds} {r : Nat} {g : Rg} {k : Nat} (h : DIs d r g k) {s : Nat} (hs : s < d.size) {b : List UInt8} (hb : b.length ≤ 64) :
    d.wrCode (r : Int) (s : Int) b.length = cd (g.run [.w s (pad b)]).2 ∧ Next d r (g.run [.w s (pad b)]).1 (k + 1) (d.wr (r : Int) (s : Int) b) := by
  rw [run_one]
  have hsm := h.small.wr (r : Int) (s : Int) b
  cases hd : g.down
  · obtain ⟨h1, h2⟩ := wr_ok (b := b) h.at (s := (s : Int)) (by omega) (by omega) hb hd
    rw [h1, h2]
    rw [h2] at hsm
    rw [Int.toNat_natCast, Int.toNat_natCast] at hsm ⊢
    have hr : r < d.regs.length := (List.getElem?_eq_some_iff.1 h.at_).1
    exact ⟨rfl, ⟨by show (d.regs.set r _)[r]? = _; rw [List.getElem?_set_self hr]; rfl, h.size, h.fit.write hs (pad_length _ hb), hsm⟩, rfl, rfl⟩
  · obtain ⟨h1, h2⟩ := wr_dn (b := b) h.at (s := (s : Int)) (by omega) (by omega) hb hd
    rw [h1, h2]
    exact ⟨rfl, h.next.more (by omega)⟩
theorem DIs.bar {d : Ds} {r : Nat} {g : Rg} {k : Nat} (h : DIs d r g k) : d.brCode (r : Int) = cd (g.run [.bar]).2 ∧ Next d r (g.run [.bar]).1 k (d.br (r : Int)) := by
  rw [run_one]
  have hsm := h.small.br (r : Int)
  unfold Ds.brCode Ds.br at *
  rw [h.at] at hsm ⊢
  simp only at hsm ⊢
  cases hd : g.down
  · rw [hd] at hsm
    simp only [Bool.false_eq_true, if_false] at hsm ⊢
    rw [Int.toNat_natCast] at hsm ⊢
    have hr : r < d.regs.length := (List.getElem?_eq_some_iff.1 h.at_).1
    exact ⟨rfl, ⟨by show (d.regs.set r _)[r]? = _; rw [List.getElem?_set_self hr]; rfl, h.size, h.fit.barrier, hsm⟩, rfl, rfl⟩
  · exact ⟨rfl, h.next⟩

/-! ### What the lane's calls do. -/
def headRaw (l : Ln) : List UInt8 := be 4 l.gen ++ [UInt8.ofNat l.bank]
def headD (l : Ln) : Do := .w 1 (pad (headRaw l))
def keptD1 (l : Ln) (i : Nat) : Do := .w (l.sec (l.first + i)) (secOf l.gen (chunk l.kept i))
def keptD (l : Ln) : List Do := (List.range l.nsec).map (keptD1 l)
/-- The sectors from the n-th on that tell its generation. -/
def cleanD (l : Ln) (S : List Sec) (n : Nat) : List Do := ((List.range' n (256 - n)).filter fun i => decide (gn (S.getD (l.sec i) zsec) = l.gen)).map fun i => .w (l.sec i) zsec

/-- Where a call of the lane's has led: the lane, its region. -/
def Went (w w' : World) (X : Nat → Prop) (dg : Nat) (d : Ds) (g : Nat) (l' : Ln) (gr : Rg) (k : Nat) : Prop := ∃ d' kv', Next d l'.r gr k d' ∧ LnAt w' X dg d' g l' kv' ∧ Out X w w'
theorem Went.more {w w' : World} {X : Nat → Prop} {dg : Nat} {d : Ds} {g : Nat} {l' : Ln} {gr : Rg} {k k' : Nat} (h : Went w w' X dg d g l' gr k) (hk : k ≤ k') : Went w w' X dg d g l' gr k' := by
  obtain ⟨d', kv', h1, h2, h3⟩ := h
  exact ⟨d', kv', h1.more hk, h2, h3⟩
theorem keptD_take (l : Ln) (j : Nat) (h : j < l.nsec) : (keptD l).take (j + 1) = (keptD l).take j ++ [keptD1 l j] := by
  unfold keptD
  have hl : j < ((List.range l.nsec).map (keptD1 l)).length := by simpa using h
  rw [List.take_succ_eq_append_getElem hl]
  simp
theorem keptD_length (l : Ln) : (keptD l).length = l.nsec := by simp [keptD]

section
variable {w : World} {X : Nat → Prop} {dg : Nat} {d : Ds} {g : Nat} {l : Ln} {kv : Value} {gr : Rg} {k : Nat}
theorem sec_lt (hf : l.Fit) (hd : DIs d l.r gr k) {j : Nat} (hj : j < 256) : l.sec j < d.size := by
  have := hf.bank
  have := hd.size
  unfold Ln.sec
  omega
/-- A sector is written. -/
theorem wrote_ln (h : LnAt w X dg d g l kv) (hf : l.Fit) (hd : DIs d l.r gr k) (hk : k ≤ 1000000) (j : Nat) (hj : j < 256) {n : Nat} {b : List UInt8} (hn : b.length = n) (hn64 : n ≤ 64) {A : Option Addr} {c : Nat} (hv : Rd w (.slice A n c) (u8s b)) :
    Calls Try.prog 81 #[ptr g, .int .i64 (j : Int), .slice A n c] w fun e w' => ∃ v, e = .returned v ∧ v = .int .i64 (cd (gr.run [.w (l.sec j) (pad b)]).2) ∧ Went w w' X dg d g l (gr.run [.w (l.sec j) (pad b)]).1 (k + 1) := by
  refine (write_ln h hf (hd.small.more hk) j (by omega) hn hv).mono ?_
  rintro e w' ⟨v, rfl, rfl, h1, h2⟩
  subst hn
  obtain ⟨h3, h4⟩ := hd.write (sec_lt hf hd hj) hn64
  exact ⟨_, rfl, by rw [h3], _, _, h4, h1, h2.less (fun _ h => .inl h)⟩
/-- The barrier. -/
theorem barred_ln {w2 : World} (h : LnAt w2 X dg d g l kv) (hd : DIs d l.r gr k) (hb : Below w.heap.size w w2) :
    Calls Try.prog 60 #[ptr dg, .int .i64 (l.r : Int)] w2 fun e w' => ∃ v, e = .returned v ∧ v = .int .i64 (cd (gr.run [.bar]).2) ∧ Went w w' X dg d g l (gr.run [.bar]).1 k := by
  refine (barrier_many (i := 0) h.many rfl (l.r : Int)).mono ?_
  rintro e w' ⟨rfl, hm, ho⟩
  obtain ⟨h3, h4⟩ := hd.bar
  exact ⟨_, rfl, by rw [h3], _, _, h4, h.turned hm ho, ((Out.of_below hb).trans ho).less (fun _ h => .inl h)⟩
end
end
section
/- Cuts of slices with a room of their own; the lesser of two numbers. -/
open Go.RowKit
set_option maxRecDepth 20000
set_option linter.unusedSimpArgs false
set_option linter.unusedVariables false

theorem run_cut (A : Option Addr) (n c l h m : Nat) (h1 : l ≤ h) (h2 : h ≤ m) (h3 : m ≤ c) (w : World) :
    (Instr.slice 58 (.slice A n c) (some (.int .i64 (l : Int))) (some (.int .i64 (h : Int))) (some (.int .i64 (m : Int)))).run Try.prog w = .ok (.slice (hiA A m l) (h - l) (m - l)) w := by
  rw [run_slice_lhm w 58 A n c slice8 .i64 .i64 .i64 l h m (by omega) (by omega) (by omega) (by omega), size8]
  simp [Result.andThen, sliced, hiA]
theorem exec_cut {o : Oper} {a : Act} {w : World} {x y z u : Operand} {A : Option Addr} {n c : Nat} (l h m : Nat) (ho : o.op = .slice 58 x (some y) (some z) (some u)) (hx : a.eval x = .slice A n c)
    (hy : a.eval y = .int .i64 (l : Int)) (hz : a.eval z = .int .i64 (h : Int)) (hu : a.eval u = .int .i64 (m : Int)) (h1 : l ≤ h) (h2 : h ≤ m) (h3 : m ≤ c) :
    (execOp a.eval o).run Try.prog w = .ok (.value (.slice (hiA A m l) (h - l) (m - l))) w := by
  have hr := run_cut A n c l h m h1 h2 h3 w
  unfold execOp
  simp only [ho, hx, hy, hz, hu, Option.map_some, Sem.run_bind, run_sliceAt_slice (P := Try.prog) (w := w) (h := slice8), hr, Result.andThen_ok, Sem.run_pure]
theorem Row.cut {w : World} {B : Nat} {A : Option Addr} {n c l h m : Nat} {xs : List Value} (hr : Row w B (.slice A n c) xs) (h1 : l ≤ h) (h2 : h ≤ m) (h3 : m ≤ c) (h4 : h ≤ n) : Row w B (.slice (hiA A m l) (h - l) (m - l)) ((xs.drop l).take (h - l)) := by
  obtain ⟨A', c', he, hc, hcell⟩ := hr
  injection he with e1 e2 e3
  subst e1 e2 e3
  have hl : ((xs.drop l).take (h - l)).length = h - l := by rw [List.length_take, List.length_drop]; omega
  refine ⟨_, _, by rw [hl], by omega, fun hn => ?_⟩
  obtain ⟨b, o, rfl, hb, hcell⟩ := hcell (by omega)
  refine ⟨b, o + l, ?_, hb, fun j u hu => ?_⟩
  · unfold hiA
    rw [if_neg (by omega)]
    simp [Addr.add]
  · rw [List.getElem?_take] at hu
    split at hu
    · rw [show o + l + j = o + (l + j) by omega]
      exact hcell (l + j) u (by rw [← hu, List.getElem?_drop])
    · cases hu
theorem Rd.cut {w : World} {A : Option Addr} {n c l h m : Nat} {xs : List UInt8} (hr : Rd w (.slice A n c) (u8s xs)) (h1 : l ≤ h) (h2 : h ≤ m) (h3 : m ≤ c) (h4 : h ≤ n) : Rd w (.slice (hiA A m l) (h - l) (m - l)) (u8s ((xs.drop l).take (h - l))) := by
  rw [u8s_take, u8s_drop]; exact Row.cut hr h1 h2 h3 h4
theorem wpList_min {P : Program} {ops : Array Oper} {rest : List Oper} {o : Oper} {a : Act} {w : World} {Q : Exit → Act → World → Prop} (x y : Operand) (m n : Int) (t : TypeId) (hgd : o.guard = none) (ho : o.op = .call { callee := .builtin .min, args := #[x, y], argTypes := #[t, t] })
    (hx : a.eval x = .int .i64 m) (hy : a.eval y = .int .i64 n) (hm : 0 ≤ m) (hn : 0 ≤ n) (h : ∀ T : Nat, (T : Int) = min m n → wpList P ops Q rest (a.put o.dst (.int .i64 (T : Int))) w) : wpList P ops Q (o :: rest) a w := by
  refine wpList_plain hgd fun K hK => ?_
  unfold Oper.wp execOp
  simp only [ho, resolve, invoke, builtin, Sem.run_bind, Sem.run_pure, Result.andThen_ok, List.map_toArray, List.map_cons, List.map_nil, hx, hy, run_min_int2]
  have h1 : ((min m n).toNat : Int) = min m n := by omega
  by_cases hlt : n < m
  · rw [if_pos hlt]
    have := h (min m n).toNat h1
    rw [h1, Int.min_eq_right (by omega)] at this
    exact hK _ _ this
  · rw [if_neg hlt]
    have := h (min m n).toNat h1
    rw [h1, Int.min_eq_left (by omega)] at this
    exact hK _ _ this
end
section
/- Contracts: a lane's sectorOf, writeHead, writeKept. -/
open Go.RowKit
set_option maxRecDepth 20000
set_option linter.unusedSimpArgs false
set_option linter.unusedVariables false

theorem put_g (x : Nat) (w : World) :
    Calls Try.prog 53 #[.slice none 0 0, .int .i64 4, .int .u64 (x : Int)] w fun e w' => ∃ v', e = .returned v' ∧ Mine w' w.heap.size v' (be 4 x) ∧ Below w.heap.size w w' := put_any (.slice none 0 0) [] 4 x w (by simp) (by omega) (by omega) (Rd.nil_ _ _ _)
theorem put_b (v : Value) (l : List UInt8) (x : Nat) (w : World) (hm : l.length ≤ 1000) (hv : Rd w v (u8s l)) :
    Calls Try.prog 53 #[v, .int .i64 1, .int .u64 (x : Int)] w fun e w' => ∃ A c, e = .returned (.slice A (l.length + 1) c) ∧ Mine w' w.heap.size (.slice A (l.length + 1) c) (l ++ [UInt8.ofNat x]) ∧ Below w.heap.size w w' := by
  refine (put_1 v l x w hm hv).mono ?_
  rintro e w' ⟨v', rfl, hmn, hb⟩
  obtain ⟨A, c, rfl⟩ := hmn.form
  rw [List.length_append] at hmn ⊢
  exact ⟨A, c, rfl, hmn, hb⟩
theorem put_z (v : Value) (l : List UInt8) (w : World) (hm : l.length ≤ 1000) (hv : Rd w v (u8s l)) :
    Calls Try.prog 53 #[v, .int .i64 3, .int .u64 0] w fun e w' => ∃ v', e = .returned v' ∧ Mine w' w.heap.size v' (l ++ [0, 0, 0]) ∧ Below w.heap.size w w' := put_any v l 3 0 w (by omega) (by omega) (by omega) hv
set_option maxHeartbeats 4000000 in
theorem sectorOf_ln {w : World} {X : Nat → Prop} {dg : Nat} {d : Ds} {g : Nat} {l : Ln} {kv : Value} (h : LnAt w X dg d g l kv) {n : Nat} {b : List UInt8} (hn : b.length = n) (h56 : n ≤ 56) {A : Option Addr} {c : Nat} (hv : Rd w (.slice A n c) (u8s b)) :
    Calls Try.prog 93 #[ptr g, .slice A n c] w fun e w' => ∃ v, e = .returned v ∧ (Say.rd (8 + n) (secRaw l.gen b)).p w' v ∧ Below w.heap.size w w' := by
  subst hn
  obtain ⟨i0, hi, hz0, hz1, hz2⟩ := info_parts info8
  obtain ⟨_, _, _, c3, _⟩ := h.cell
  have hl1 := hide (show (be 4 l.gen ++ [UInt8.ofNat b.length] ++ [0, 0, 0]).length + (u8s b).length ≤ maxLen by rw [u8s_length]; simp [be_length]; unfold maxLen; omega)
  have hl2 := hide (show ((be 4 l.gen ++ [UInt8.ofNat b.length] ++ [0, 0, 0]).length + (u8s b).length) * 1 ≤ 140737488355328 by rw [u8s_length]; simp [be_length]; omega)
  have hm1 := hide (show (be 4 l.gen).length ≤ 1000 by rw [be_length]; omega)
  have hm2 := hide (show (be 4 l.gen ++ [UInt8.ofNat b.length]).length ≤ 1000 by simp [be_length])
  have HV := hide hv
  have h56' : (b.length : Int) ≤ 56 := by omega
  clear h hv
  unfold ptr
  go_enter Try.func93, Try.ntmps93
  go_wp2_with (first
    | (go_at_call 53; ((with_reducible refine (put_g l.gen _).mono ?_); rintro e w1 ⟨v1, rfl, m1, hb1⟩; have V1 := HV.out.below hb1; have B1 := hide hb1; clear hb1))
    | (go_at_call 53; ((with_reducible refine (put_1 v1 _ b.length _ hm1.out m1.rd).mono ?_); rintro e w2 ⟨v2, rfl, m2, hb2⟩; have V2 := V1.below hb2; have B2 := hide (B1.out.trans (hb2.mono B1.out.size)); clear hb2))
    | (go_at_call 53; ((with_reducible refine (put_z v2 _ _ hm2.out m2.rd).mono ?_); rintro e w3 ⟨v3, rfl, m3, hb3⟩; have V3 := V2.below hb3; have B3 := hide (B2.out.trans (hb3.mono B2.out.size)); clear hb3))
    | (at_builtin; refine wpList_append_rd rfl (.tmp 18) (.tmp 19) 58 rfl (base := w.heap.size) 5 i0 (.int .u8 0) 1 Try.underlying58 hi hz0 hz1 hz2 rfl v3 _ _ rfl (m3.more B2.out.size) (.slice A b.length c) (u8s b) rfl V3 (oneCell_u8s b) hl1.out hl2.out B3.out.size ?_; intro v4 w4 own4 grow4 at4))
  go_ret
  have hm4 : Mine w4 w.heap.size v4 (be 4 l.gen ++ [UInt8.ofNat b.length] ++ [0, 0, 0] ++ b) := mine_rd own4
  have e : be 4 l.gen ++ [UInt8.ofNat b.length] ++ [0, 0, 0] ++ b = secRaw l.gen b := by simp [secRaw]
  rw [e] at hm4
  obtain ⟨A4, c4, rfl⟩ := hm4.form
  rw [secRaw_length] at *
  exact ⟨_, rfl, ⟨_, _, rfl, hm4.rd⟩, B3.out.grown grow4 B3.out.size (fun k hk => Nat.le_trans B2.out.size (m3.low k hk))⟩

theorem headRaw_length (l : Ln) : (headRaw l).length = 5 := by simp [headRaw, be_length]
theorem put_head {w : World} (l : Ln) {A : Option Addr} {c : Nat} (hv : Rd w (.slice A 4 c) (u8s (be 4 l.gen))) :
    Calls Try.prog 53 #[.slice A 4 c, .int .i64 1, .int .u64 (l.bank : Int)] w fun e w' => ∃ v, e = .returned v ∧ (Say.rd 5 (headRaw l)).p w' v ∧ Below w.heap.size w w' := by
  refine (put_b _ (be 4 l.gen) l.bank w (by rw [be_length]; omega) hv).mono ?_
  rintro e w' ⟨A, c, rfl, hm, hb⟩
  rw [be_length] at hm ⊢
  exact ⟨_, rfl, ⟨A, c, rfl, hm.rd⟩, hb⟩
theorem wrote_head {w w2 : World} {X : Nat → Prop} {dg : Nat} {d : Ds} {g : Nat} {l : Ln} {kv : Value} {gr : Rg} {k : Nat} (h : LnAt w2 X dg d g l kv) (hd : DIs d l.r gr k) (hk : k ≤ 1000000) {A : Option Addr} {c : Nat} (hv : Rd w2 (.slice A 5 c) (u8s (headRaw l))) (hb : Below w.heap.size w w2) :
    Calls Try.prog 19 #[ptr dg, .int .i64 (l.r : Int), .int .i64 1, .slice A 5 c] w2 fun e w' => ∃ v, e = .returned v ∧ v = .int .i64 (cd (gr.run [headD l]).2) ∧ Went w w' X dg d g l (gr.run [headD l]).1 (k + 1) := by
  refine (write_lane h (hd.small.more hk) (headRaw_length l) (l.r : Int) ((1 : Nat) : Int) hv hb).mono ?_
  rintro e w' ⟨v, rfl, rfl, h1, h2⟩
  have hs := hd.size
  obtain ⟨h3, h4⟩ := hd.write (s := 1) (by omega) (b := headRaw l) (by rw [headRaw_length]; omega)
  rw [headRaw_length] at h3
  exact ⟨_, rfl, by rw [h3]; rfl, _, _, h4, h1, h2.less (fun _ h => .inl h)⟩
set_option maxHeartbeats 4000000 in
theorem head_ln {w : World} {X : Nat → Prop} {dg : Nat} {d : Ds} {g : Nat} {l : Ln} {kv : Value} {gr : Rg} {k : Nat} (h : LnAt w X dg d g l kv) (hf : l.Fit) (hd : DIs d l.r gr k) (hk : k ≤ 1000000) :
    Calls Try.prog 59 #[ptr g] w fun e w' => ∃ v, e = .returned v ∧ v = .int .i64 (cd (gr.run [headD l]).2) ∧ Went w w' X dg d g l (gr.run [headD l]).1 (k + 1) := by
  have H0 := hide h
  obtain ⟨KA, kc, rfl, _⟩ := id h.kept
  obtain ⟨_, _, _, c3, _⟩ := h.cell
  clear h
  unfold ptr
  go_enter Try.func59, Try.ntmps59
  go_upto_region 2 with (first
    | (go_at_call 53; ((with_reducible refine (put_g l.gen _).mono ?_); rintro e w1 ⟨v1, rfl, m1, hb1⟩; have H1 := hide (H0.out.below hb1); have B1 := hide hb1; obtain ⟨A1, c1, rfl⟩ := m1.form; have R1 := hide m1.rd; clear hb1 m1)))
  rw [be_length] at *
  refine region_last 15 24 [Say.is (.pointer (some ⟨g, 0, none⟩)), Say.is (.pointer (some ⟨g, 0, none⟩)), Say.is (.pointer (some ⟨g, 0, none⟩)), Say.is (ptr dg), Say.is (.pointer (some ⟨g, 0, none⟩)), Say.is (.pointer (some ⟨g, 0, none⟩)), Say.is (.pointer (some ⟨g, 1, none⟩)), Say.is (.int .i64 (l.r : Int)), Say.rd 4 (be 4 l.gen), Say.is (.pointer (some ⟨g, 0, none⟩)), Say.is (.pointer (some ⟨g, 0, none⟩)), Say.is (.pointer (some ⟨g, 2, none⟩)), Say.is (.int .i64 (l.bank : Int)), Say.is (.int .u64 (l.bank : Int)), Say.rd 5 (headRaw l)] (fun v w' => v = .int .i64 (cd (gr.run [headD l]).2) ∧ Went w1 w' X dg d g l (gr.run [headD l]).1 (k + 1)) rfl rfl rfl (by kernel_rfl) (by kernel_rfl) (by kernel_rfl) (by kernel_rfl) (by kernel_rfl) ?_ ?_ ?_ ?_
  · intro i o hik ho a w2 hb hsz old dep
    match i, ho with
    | 0, ho =>
      obtain rfl := Option.some.inj ho
      have o0 : a.tmps.getD 0 undef = _ := old 0 (by kernel_rfl)
      rw [if_pos (wanted_none rfl)]
      refine grow_same (v := .pointer (some ⟨g, 0, none⟩)) ?_ rfl
      clear old dep ho hsz hb
      go_simp
    | 1, ho =>
      obtain rfl := Option.some.inj ho
      have d0 : a.tmps.getD 9 undef = .pointer (some ⟨g, 0, none⟩) := dep 0 _ _ (by kernel_rfl) rfl rfl
      have e0 : a.tmps[9]?.getD undef = _ := (Array.getD_eq_getD_getElem? ..).symm.trans d0
      rw [if_pos (wanted_none rfl)]
      refine grow_same (v := .pointer (some ⟨g, 0, none⟩)) ?_ rfl
      clear old dep ho hsz hb
      go_simp
    | 2, ho =>
      obtain rfl := Option.some.inj ho
      have d1 : a.tmps.getD 10 undef = .pointer (some ⟨g, 0, none⟩) := dep 1 _ _ (by kernel_rfl) rfl rfl
      have e1 : a.tmps[10]?.getD undef = _ := (Array.getD_eq_getD_getElem? ..).symm.trans d1
      rw [if_pos (wanted_none rfl)]
      refine grow_same (v := .pointer (some ⟨g, 0, none⟩)) ?_ rfl
      clear old dep ho hsz hb
      go_simp
    | 3, ho =>
      obtain rfl := Option.some.inj ho
      have d2 : a.tmps.getD 11 undef = .pointer (some ⟨g, 0, none⟩) := dep 2 _ _ (by kernel_rfl) rfl rfl
      have e2 : a.tmps[11]?.getD undef = _ := (Array.getD_eq_getD_getElem? ..).symm.trans d2
      rw [if_pos (wanted_none rfl)]
      obtain ⟨hc0, hc1, hc2, hc3, hc4, hc5, hc6, hc7⟩ := (H1.out.below hb).cell
      refine grow_same (v := ptr dg) ?_ rfl
      clear old dep ho hsz hb
      go_simp
    | 4, ho =>
      obtain rfl := Option.some.inj ho
      have o0 : a.tmps.getD 0 undef = _ := old 0 (by kernel_rfl)
      rw [if_pos (wanted_none rfl)]
      refine grow_same (v := .pointer (some ⟨g, 0, none⟩)) ?_ rfl
      clear old dep ho hsz hb
      go_simp
    | 5, ho =>
      obtain rfl := Option.some.inj ho
      have d4 : a.tmps.getD 13 undef = .pointer (some ⟨g, 0, none⟩) := dep 4 _ _ (by kernel_rfl) rfl rfl
      have e4 : a.tmps[13]?.getD undef = _ := (Array.getD_eq_getD_getElem? ..).symm.trans d4
      rw [if_pos (wanted_none rfl)]
      refine grow_same (v := .pointer (some ⟨g, 0, none⟩)) ?_ rfl
      clear old dep ho hsz hb
      go_simp
    | 6, ho =>
      obtain rfl := Option.some.inj ho
      have d5 : a.tmps.getD 14 undef = .pointer (some ⟨g, 0, none⟩) := dep 5 _ _ (by kernel_rfl) rfl rfl
      have e5 : a.tmps[14]?.getD undef = _ := (Array.getD_eq_getD_getElem? ..).symm.trans d5
      rw [if_pos (wanted_none rfl)]
      refine grow_same (v := .pointer (some ⟨g, 1, none⟩)) ?_ rfl
      clear old dep ho hsz hb
      go_simp
    | 7, ho =>
      obtain rfl := Option.some.inj ho
      have d6 : a.tmps.getD 15 undef = .pointer (some ⟨g, 1, none⟩) := dep 6 _ _ (by kernel_rfl) rfl rfl
      have e6 : a.tmps[15]?.getD undef = _ := (Array.getD_eq_getD_getElem? ..).symm.trans d6
      rw [if_pos (wanted_none rfl)]
      obtain ⟨hc0, hc1, hc2, hc3, hc4, hc5, hc6, hc7⟩ := (H1.out.below hb).cell
      refine grow_same (v := .int .i64 (l.r : Int)) ?_ rfl
      clear old dep ho hsz hb
      go_simp
    | 8, ho =>
      obtain rfl := Option.some.inj ho
      have o3 : a.tmps.getD 3 undef = _ := old 3 (by kernel_rfl)
      rw [if_pos (wanted_none rfl)]
      refine grow_same (v := .slice A1 4 c1) ?_ ⟨_, _, rfl, (R1.out.below hb)⟩
      clear old dep ho hsz hb
      go_simp
    | 9, ho =>
      obtain rfl := Option.some.inj ho
      have o0 : a.tmps.getD 0 undef = _ := old 0 (by kernel_rfl)
      rw [if_pos (wanted_none rfl)]
      refine grow_same (v := .pointer (some ⟨g, 0, none⟩)) ?_ rfl
      clear old dep ho hsz hb
      go_simp
    | 10, ho =>
      obtain rfl := Option.some.inj ho
      have d9 : a.tmps.getD 18 undef = .pointer (some ⟨g, 0, none⟩) := dep 9 _ _ (by kernel_rfl) rfl rfl
      have e9 : a.tmps[18]?.getD undef = _ := (Array.getD_eq_getD_getElem? ..).symm.trans d9
      rw [if_pos (wanted_none rfl)]
      refine grow_same (v := .pointer (some ⟨g, 0, none⟩)) ?_ rfl
      clear old dep ho hsz hb
      go_simp
    | 11, ho =>
      obtain rfl := Option.some.inj ho
      have d10 : a.tmps.getD 19 undef = .pointer (some ⟨g, 0, none⟩) := dep 10 _ _ (by kernel_rfl) rfl rfl
      have e10 : a.tmps[19]?.getD undef = _ := (Array.getD_eq_getD_getElem? ..).symm.trans d10
      rw [if_pos (wanted_none rfl)]
      refine grow_same (v := .pointer (some ⟨g, 2, none⟩)) ?_ rfl
      clear old dep ho hsz hb
      go_simp
    | 12, ho =>
      obtain rfl := Option.some.inj ho
      have d11 : a.tmps.getD 20 undef = .pointer (some ⟨g, 2, none⟩) := dep 11 _ _ (by kernel_rfl) rfl rfl
      have e11 : a.tmps[20]?.getD undef = _ := (Array.getD_eq_getD_getElem? ..).symm.trans d11
      rw [if_pos (wanted_none rfl)]
      obtain ⟨hc0, hc1, hc2, hc3, hc4, hc5, hc6, hc7⟩ := (H1.out.below hb).cell
      refine grow_same (v := .int .i64 (l.bank : Int)) ?_ rfl
      clear old dep ho hsz hb
      go_simp
    | 13, ho =>
      obtain rfl := Option.some.inj ho
      have d12 : a.tmps.getD 21 undef = .int .i64 (l.bank : Int) := dep 12 _ _ (by kernel_rfl) rfl rfl
      have e12 : a.tmps[21]?.getD undef = _ := (Array.getD_eq_getD_getElem? ..).symm.trans d12
      rw [if_pos (wanted_none rfl)]
      have hbk := hf.bank
      refine grow_same (v := .int .u64 (l.bank : Int)) ?_ rfl
      clear old dep ho hsz hb
      go_simp
      rw [IntKind.wrap_u64]
      omega
    | 14, ho =>
      obtain rfl := Option.some.inj ho
      obtain ⟨A8, C8, d8, r8⟩ : ∃ A c, a.tmps.getD 17 undef = .slice A 4 c ∧ Rd w2 (.slice A 4 c) (u8s (be 4 l.gen)) := dep 8 _ _ (by kernel_rfl) rfl rfl
      have e8 : a.tmps[17]?.getD undef = _ := (Array.getD_eq_getD_getElem? ..).symm.trans d8
      have d13 : a.tmps.getD 22 undef = .int .u64 (l.bank : Int) := dep 13 _ _ (by kernel_rfl) rfl rfl
      have e13 : a.tmps[22]?.getD undef = _ := (Array.getD_eq_getD_getElem? ..).symm.trans d13
      rw [if_pos (wanted_none rfl)]
      refine grow_enters (f := 53) (args := #[.slice A8 4 C8, .int .i64 1, .int .u64 (l.bank : Int)]) ?_ (put_head l r8)
      clear old dep ho hsz hb
      go_simp
    | i + 15, ho => exact absurd hik (by omega)
  · intro a w2 hb hsz old dep
    have d3 : a.tmps.getD 12 undef = ptr dg := dep 3 _ _ (by kernel_rfl) rfl rfl
    have e3 : a.tmps[12]?.getD undef = _ := (Array.getD_eq_getD_getElem? ..).symm.trans d3
    have d7 : a.tmps.getD 16 undef = .int .i64 (l.r : Int) := dep 7 _ _ (by kernel_rfl) rfl rfl
    have e7 : a.tmps[16]?.getD undef = _ := (Array.getD_eq_getD_getElem? ..).symm.trans d7
    obtain ⟨A14, C14, d14, r14⟩ : ∃ A c, a.tmps.getD 23 undef = .slice A 5 c ∧ Rd w2 (.slice A 5 c) (u8s (headRaw l)) := dep 14 _ _ (by kernel_rfl) rfl rfl
    have e14 : a.tmps[23]?.getD undef = _ := (Array.getD_eq_getD_getElem? ..).symm.trans d14
    refine last_enters (f := 19) (args := #[ptr dg, .int .i64 (l.r : Int), .int .i64 1, .slice A14 5 C14]) ?_ (wrote_head (H1.out.below hb) hd hk r14 hb)
    clear old dep hsz hb
    go_simp
  · intro i o hki ho
    have hin : i < 17 := (Array.getElem?_eq_some_iff.1 ho).1
    obtain rfl : i = 16 := by omega
    obtain rfl := Option.some.inj ho
    refine ⟨rfl, fun a w => ?_⟩
    rw [Array.getD_eq_getD_getElem?]
    clear hki ho hin
    go_simp
  · intro a w2 v hR hsz hdf hk fin keep
    obtain ⟨tm, df⟩ := a
    have hx := frame_of [9, 10, 11, 12, 13, 14, 15, 16, 17, 18, 19, 20, 21, 22, 23, 24, 2] (by kernel_rfl) hsz keep
    dsimp only at hdf hx hk
    simp only [List.foldl_cons, List.foldl_nil] at hx
    subst hdf
    clear hsz keep
    rw [hk] at hx
    clear hk
    generalize tm.getD 9 undef = y9 at hx
    generalize tm.getD 10 undef = y10 at hx
    generalize tm.getD 11 undef = y11 at hx
    generalize tm.getD 12 undef = y12 at hx
    generalize tm.getD 13 undef = y13 at hx
    generalize tm.getD 14 undef = y14 at hx
    generalize tm.getD 15 undef = y15 at hx
    generalize tm.getD 16 undef = y16 at hx
    generalize tm.getD 17 undef = y17 at hx
    generalize tm.getD 18 undef = y18 at hx
    generalize tm.getD 19 undef = y19 at hx
    generalize tm.getD 20 undef = y20 at hx
    generalize tm.getD 21 undef = y21 at hx
    generalize tm.getD 22 undef = y22 at hx
    generalize tm.getD 23 undef = y23 at hx
    have kn : tm.getD 2 undef = v := fin 16 _ _ (by decide) rfl rfl
    rw [kn] at hx
    clear kn
    clear fin
    simp only [List.setIfInBounds_toArray, List.set_cons_succ, List.set_cons_zero] at hx
    subst hx
    clear c3
    go_wp2
    go_ret
    obtain ⟨rfl, d', kv', h1, h2, h3⟩ := hR
    exact ⟨_, rfl, rfl, d', kv', h1, h2, (Out.of_below B1.out).trans h3⟩

theorem LnAt.kept_rd {w : World} {X : Nat → Prop} {dg : Nat} {d : Ds} {g : Nat} {l : Ln} {A : Option Addr} {c : Nat} (h : LnAt w X dg d g l (.slice A l.kept.length c)) : Rd w (.slice A l.kept.length c) (u8s l.kept) := by
  obtain ⟨A', c', e, hr, _⟩ := h.kept
  exact hr
theorem wrote_grown {w w2 : World} {X : Nat → Prop} {dg : Nat} {d : Ds} {g : Nat} {l : Ln} {kv : Value} {gr : Rg} {k : Nat} (h : LnAt w2 X dg d g l kv) (hf : l.Fit) (hd : DIs d l.r gr k) (hk : k ≤ 1000000) (j : Nat) (hj : j < 256) {n : Nat} {b : List UInt8} (hn : (secRaw l.gen b).length = n) (hn64 : n ≤ 64) {A : Option Addr} {c : Nat} (hv : Rd w2 (.slice A n c) (u8s (secRaw l.gen b))) (hb : Below w.heap.size w w2) :
    Calls Try.prog 81 #[ptr g, .int .i64 (j : Int), .slice A n c] w2 fun e w' => ∃ v, e = .returned v ∧ v = .int .i64 (cd (gr.run [.w (l.sec j) (secOf l.gen b)]).2) ∧ Went w w' X dg d g l (gr.run [.w (l.sec j) (secOf l.gen b)]).1 (k + 1) := by
  refine (wrote_ln h hf hd hk j hj hn hn64 hv).mono ?_
  rintro e w' ⟨v, rfl, rfl, d', kv', h1, h2, h3⟩
  exact ⟨_, rfl, rfl, d', kv', h1, h2, (Out.of_below hb).trans h3⟩
theorem run_snoc {g g' : Rg} {a : List Do} (h : g.run a = (g', true)) (o : Do) : g.run (a ++ [o]) = g'.run [o] := run_yes h _
set_option maxHeartbeats 8000000 in
theorem kept_ln {w : World} {X : Nat → Prop} {dg : Nat} {d : Ds} {g : Nat} {l : Ln} {kv : Value} {gr : Rg} {k : Nat} (h : LnAt w X dg d g l kv) (hf : l.Fit) (hd : DIs d l.r gr k) (hk : k ≤ 900000) :
    Calls Try.prog 72 #[ptr g] w fun e w' => ∃ v, e = .returned v ∧ v = .int .i64 (cd (gr.run (keptD l)).2) ∧ Went w w' X dg d g l (gr.run (keptD l)).1 (k + 300) := by
  have H0 := hide h
  have hsec := sectors_ln h hf.len
  have hlen := hf.len
  have hns : l.first + l.nsec ≤ 256 := by unfold Ln.nsec; unfold Ln.len at hlen; omega
  have hks : 56 * l.nsec < l.kept.length + 56 := by unfold Ln.nsec; omega
  have D0 := hide hd
  have F0 := hide hf
  clear h hd
  unfold ptr at hsec ⊢
  go_enter Try.func72, Try.ntmps72
  go_wp2_with (go_at_call 80; refine hsec.mono ?_; rintro e w1 ⟨rfl, rfl⟩)
  clear hsec
  go_loopw [9] (fun i wr => ∃ j : Nat, j ≤ l.nsec ∧ i = .int .i64 j ∧ (gr.run ((keptD l).take j)).2 = true ∧ Went w wr X dg d g l (gr.run ((keptD l).take j)).1 (k + j)) (fun i _ => l.nsec - (intOf i).toNat)
  case atStart => exact ⟨0, Nat.zero_le _, rfl, rfl, d, kv, D0.out.next, H0.out, Out.of_below (Below.refl _ _)⟩
  case round =>
    obtain ⟨j, hj, rfl, hrun, dj, kvj, hnx, hln, hout⟩ := hrel
    by_cases hlt : j < l.nsec
    · have H1 := hide hln
      have O1 := hide hout
      have N1 := hide hnx
      have D1 := hide hnx.is
      have RUN := hide hrun
      have TK := hide (keptD_take l j hlt)
      have HJ := hide (show l.first + j < 256 by omega)
      have hk1 : k + j ≤ 1000000 := by omega
      obtain ⟨KA, kc, rfl, hkr, _⟩ := id hln.kept
      have hkc := rd_cap hkr
      have hc5 := hide hln.cell
      have hlt' : (j : Int) < (l.nsec : Int) := by omega
      have hj0 : (0 : Int) ≤ (j : Int) * 56 + 56 := by omega
      have hj1 : (j : Int) ≤ 300 := by omega
      have hkl0 : (0 : Int) ≤ (l.kept.length : Int) := by omega
      obtain ⟨c0, c1, c2, c3, c4, c5, c6, c7⟩ := hln.cell
      generalize hgj : (gr.run ((keptD l).take j)).1 = gj at *
      clear hln hout hnx hrun hkr
      go_upto_region 6 with (first
        | ((with_reducible refine wpList_min (.tmp 15) (.tmp 20) ((j : Int) * 56 + 56) (l.kept.length : Int) 3 rfl rfl ?_ ?_ hj0 hkl0 ?_); rfl; rfl; intro tt htt))
      have HT1 := hide (show j * 56 ≤ tt by omega)
      have HT2 := hide (show tt ≤ l.kept.length by omega)
      have HT3 := hide (show tt ≤ kc by omega)
      have HT4 := hide (show tt - j * 56 ≤ 56 by omega)
      have HT5 := hide (show 8 + (tt - j * 56) ≤ 64 by omega)
      have HCH := hide (show chunk l.kept j = (l.kept.drop (j * 56)).take (tt - j * 56) by
        unfold chunk
        rw [Nat.mul_comm 56 j]
        rcases Nat.lt_or_ge (l.kept.length - j * 56) 56 with h1 | h1
        · rw [List.take_of_length_le (by rw [List.length_drop]; omega), List.take_of_length_le (by rw [List.length_drop]; omega)]
        · rw [show tt - j * 56 = 56 by omega])
      have HC := hide (show (chunk l.kept j).length = tt - j * 56 by rw [chunk_length]; omega)
      have HS := hide (show (secRaw l.gen (chunk l.kept j)).length = 8 + (tt - j * 56) by rw [secRaw_length, HC.out])
      refine region_last 17 39 [Say.is (.pointer (some ⟨g, 0, none⟩)), Say.is (.pointer (some ⟨g, 0, none⟩)), Say.is (.pointer (some ⟨g, 0, none⟩)), Say.is (.pointer (some ⟨g, 4, none⟩)), Say.is (.int .i64 (l.first : Int)), Say.is (.int .i64 (j : Int)), Say.is (.int .i64 ((l.first + j : Nat) : Int)), Say.is (.pointer (some ⟨g, 0, none⟩)), Say.is (.pointer (some ⟨g, 0, none⟩)), Say.is (.pointer (some ⟨g, 0, none⟩)), Say.is (.pointer (some ⟨g, 5, none⟩)), Say.is (.slice KA l.kept.length kc), Say.is (.int .i64 ((j : Int) * 56)), Say.is (.int .i64 (tt : Int)), Say.is (.int .i64 (tt : Int)), Say.rd (tt - j * 56) (chunk l.kept j), Say.rd (8 + (tt - j * 56)) (secRaw l.gen (chunk l.kept j))] (fun v w' => v = .int .i64 (cd (gj.run [keptD1 l j]).2) ∧ Went wr w' X dg dj g l (gj.run [keptD1 l j]).1 (k + j + 1)) rfl rfl rfl (by kernel_rfl) (by kernel_rfl) (by kernel_rfl) (by kernel_rfl) (by kernel_rfl) ?_ ?_ ?_ ?_
      · intro i o hik ho a w2 hb hsz old dep
        match i, ho with
        | 0, ho =>
          obtain rfl := Option.some.inj ho
          have o0 : a.tmps.getD 0 undef = _ := old 0 (by kernel_rfl)
          rw [if_pos (wanted_none rfl)]
          refine grow_same (v := .pointer (some ⟨g, 0, none⟩)) ?_ rfl
          clear old dep ho hsz hb
          go_simp
        | 1, ho =>
          obtain rfl := Option.some.inj ho
          have o0 : a.tmps.getD 0 undef = _ := old 0 (by kernel_rfl)
          rw [if_pos (wanted_none rfl)]
          refine grow_same (v := .pointer (some ⟨g, 0, none⟩)) ?_ rfl
          clear old dep ho hsz hb
          go_simp
        | 2, ho =>
          obtain rfl := Option.some.inj ho
          have d1 : a.tmps.getD 23 undef = .pointer (some ⟨g, 0, none⟩) := dep 1 _ _ (by kernel_rfl) rfl rfl
          have e1 : a.tmps[23]?.getD undef = _ := (Array.getD_eq_getD_getElem? ..).symm.trans d1
          rw [if_pos (wanted_none rfl)]
          refine grow_same (v := .pointer (some ⟨g, 0, none⟩)) ?_ rfl
          clear old dep ho hsz hb
          go_simp
        | 3, ho =>
          obtain rfl := Option.some.inj ho
          have d2 : a.tmps.getD 24 undef = .pointer (some ⟨g, 0, none⟩) := dep 2 _ _ (by kernel_rfl) rfl rfl
          have e2 : a.tmps[24]?.getD undef = _ := (Array.getD_eq_getD_getElem? ..).symm.trans d2
          rw [if_pos (wanted_none rfl)]
          refine grow_same (v := .pointer (some ⟨g, 4, none⟩)) ?_ rfl
          clear old dep ho hsz hb
          go_simp
        | 4, ho =>
          obtain rfl := Option.some.inj ho
          have d3 : a.tmps.getD 25 undef = .pointer (some ⟨g, 4, none⟩) := dep 3 _ _ (by kernel_rfl) rfl rfl
          have e3 : a.tmps[25]?.getD undef = _ := (Array.getD_eq_getD_getElem? ..).symm.trans d3
          rw [if_pos (wanted_none rfl)]
          obtain ⟨hc0, hc1, hc2, hc3, hc4, hc5, hc6, hc7⟩ := (H1.out.below hb).cell
          refine grow_same (v := .int .i64 (l.first : Int)) ?_ rfl
          clear old dep ho hsz hb
          go_simp
        | 5, ho =>
          obtain rfl := Option.some.inj ho
          have o3 : a.tmps.getD 3 undef = _ := old 3 (by kernel_rfl)
          rw [if_pos (wanted_none rfl)]
          refine grow_same (v := .int .i64 (j : Int)) ?_ rfl
          clear old dep ho hsz hb
          go_simp
        | 6, ho =>
          obtain rfl := Option.some.inj ho
          have d4 : a.tmps.getD 26 undef = .int .i64 (l.first : Int) := dep 4 _ _ (by kernel_rfl) rfl rfl
          have e4 : a.tmps[26]?.getD undef = _ := (Array.getD_eq_getD_getElem? ..).symm.trans d4
          have d5 : a.tmps.getD 27 undef = .int .i64 (j : Int) := dep 5 _ _ (by kernel_rfl) rfl rfl
          have e5 : a.tmps[27]?.getD undef = _ := (Array.getD_eq_getD_getElem? ..).symm.trans d5
          rw [if_pos (wanted_none rfl)]
          have hh3 := HJ.out
          refine grow_same (v := .int .i64 ((l.first + j : Nat) : Int)) ?_ rfl
          clear old dep ho hsz hb
          go_simp
          first | omega | (rw [IntKind.wrap_i64]; omega)
        | 7, ho =>
          obtain rfl := Option.some.inj ho
          have o0 : a.tmps.getD 0 undef = _ := old 0 (by kernel_rfl)
          rw [if_pos (wanted_none rfl)]
          refine grow_same (v := .pointer (some ⟨g, 0, none⟩)) ?_ rfl
          clear old dep ho hsz hb
          go_simp
        | 8, ho =>
          obtain rfl := Option.some.inj ho
          have o0 : a.tmps.getD 0 undef = _ := old 0 (by kernel_rfl)
          rw [if_pos (wanted_none rfl)]
          refine grow_same (v := .pointer (some ⟨g, 0, none⟩)) ?_ rfl
          clear old dep ho hsz hb
          go_simp
        | 9, ho =>
          obtain rfl := Option.some.inj ho
          have d8 : a.tmps.getD 30 undef = .pointer (some ⟨g, 0, none⟩) := dep 8 _ _ (by kernel_rfl) rfl rfl
          have e8 : a.tmps[30]?.getD undef = _ := (Array.getD_eq_getD_getElem? ..).symm.trans d8
          rw [if_pos (wanted_none rfl)]
          refine grow_same (v := .pointer (some ⟨g, 0, none⟩)) ?_ rfl
          clear old dep ho hsz hb
          go_simp
        | 10, ho =>
          obtain rfl := Option.some.inj ho
          have d9 : a.tmps.getD 31 undef = .pointer (some ⟨g, 0, none⟩) := dep 9 _ _ (by kernel_rfl) rfl rfl
          have e9 : a.tmps[31]?.getD undef = _ := (Array.getD_eq_getD_getElem? ..).symm.trans d9
          rw [if_pos (wanted_none rfl)]
          refine grow_same (v := .pointer (some ⟨g, 5, none⟩)) ?_ rfl
          clear old dep ho hsz hb
          go_simp
        | 11, ho =>
          obtain rfl := Option.some.inj ho
          have d10 : a.tmps.getD 32 undef = .pointer (some ⟨g, 5, none⟩) := dep 10 _ _ (by kernel_rfl) rfl rfl
          have e10 : a.tmps[32]?.getD undef = _ := (Array.getD_eq_getD_getElem? ..).symm.trans d10
          rw [if_pos (wanted_none rfl)]
          obtain ⟨hc0, hc1, hc2, hc3, hc4, hc5, hc6, hc7⟩ := (H1.out.below hb).cell
          refine grow_same (v := .slice KA l.kept.length kc) ?_ rfl
          clear old dep ho hsz hb
          go_simp
        | 12, ho =>
          obtain rfl := Option.some.inj ho
          have o4 : a.tmps.getD 4 undef = _ := old 4 (by kernel_rfl)
          rw [if_pos (wanted_none rfl)]
          refine grow_same (v := .int .i64 ((j : Int) * 56)) ?_ rfl
          clear old dep ho hsz hb
          go_simp
        | 13, ho =>
          obtain rfl := Option.some.inj ho
          have o5 : a.tmps.getD 5 undef = _ := old 5 (by kernel_rfl)
          rw [if_pos (wanted_none rfl)]
          refine grow_same (v := .int .i64 (tt : Int)) ?_ rfl
          clear old dep ho hsz hb
          go_simp
        | 14, ho =>
          obtain rfl := Option.some.inj ho
          have o5 : a.tmps.getD 5 undef = _ := old 5 (by kernel_rfl)
          rw [if_pos (wanted_none rfl)]
          refine grow_same (v := .int .i64 (tt : Int)) ?_ rfl
          clear old dep ho hsz hb
          go_simp
        | 15, ho =>
          obtain rfl := Option.some.inj ho
          have d11 : a.tmps.getD 33 undef = .slice KA l.kept.length kc := dep 11 _ _ (by kernel_rfl) rfl rfl
          have e11 : a.tmps[33]?.getD undef = _ := (Array.getD_eq_getD_getElem? ..).symm.trans d11
          have d12 : a.tmps.getD 34 undef = .int .i64 ((j : Int) * 56) := dep 12 _ _ (by kernel_rfl) rfl rfl
          have e12 : a.tmps[34]?.getD undef = _ := (Array.getD_eq_getD_getElem? ..).symm.trans d12
          have d13 : a.tmps.getD 35 undef = .int .i64 (tt : Int) := dep 13 _ _ (by kernel_rfl) rfl rfl
          have e13 : a.tmps[35]?.getD undef = _ := (Array.getD_eq_getD_getElem? ..).symm.trans d13
          have d14 : a.tmps.getD 36 undef = .int .i64 (tt : Int) := dep 14 _ _ (by kernel_rfl) rfl rfl
          have e14 : a.tmps[36]?.getD undef = _ := (Array.getD_eq_getD_getElem? ..).symm.trans d14
          rw [if_pos (wanted_none rfl)]
          refine grow_same (v := .slice (hiA KA tt (j * 56)) (tt - j * 56) (tt - j * 56)) (exec_cut (j * 56) tt tt rfl d11 (d12.trans (by rw [Int.natCast_mul]; rfl)) d13 d14 HT1.out (Nat.le_refl _) HT3.out) ⟨_, _, rfl, ?_⟩
          rw [HCH.out]
          exact Rd.cut (H1.out.below hb).kept_rd HT1.out (Nat.le_refl _) HT3.out HT2.out
        | 16, ho =>
          obtain rfl := Option.some.inj ho
          have d7 : a.tmps.getD 29 undef = .pointer (some ⟨g, 0, none⟩) := dep 7 _ _ (by kernel_rfl) rfl rfl
          have e7 : a.tmps[29]?.getD undef = _ := (Array.getD_eq_getD_getElem? ..).symm.trans d7
          obtain ⟨A15, C15, d15, r15⟩ : ∃ A c, a.tmps.getD 37 undef = .slice A (tt - j * 56) c ∧ Rd w2 (.slice A (tt - j * 56) c) (u8s (chunk l.kept j)) := dep 15 _ _ (by kernel_rfl) rfl rfl
          have e15 : a.tmps[37]?.getD undef = _ := (Array.getD_eq_getD_getElem? ..).symm.trans d15
          rw [if_pos (wanted_none rfl)]
          refine grow_enters (f := 93) (args := #[.pointer (some ⟨g, 0, none⟩), .slice A15 (tt - j * 56) C15]) ?_ (sectorOf_ln (H1.out.below hb) HC.out HT4.out r15)
          clear old dep ho hsz hb
          go_simp
        | i + 17, ho => exact absurd hik (by omega)
      · intro a w2 hb hsz old dep
        have d0 : a.tmps.getD 22 undef = .pointer (some ⟨g, 0, none⟩) := dep 0 _ _ (by kernel_rfl) rfl rfl
        have e0 : a.tmps[22]?.getD undef = _ := (Array.getD_eq_getD_getElem? ..).symm.trans d0
        have d6 : a.tmps.getD 28 undef = .int .i64 ((l.first + j : Nat) : Int) := dep 6 _ _ (by kernel_rfl) rfl rfl
        have e6 : a.tmps[28]?.getD undef = _ := (Array.getD_eq_getD_getElem? ..).symm.trans d6
        obtain ⟨A16, C16, d16, r16⟩ : ∃ A c, a.tmps.getD 38 undef = .slice A (8 + (tt - j * 56)) c ∧ Rd w2 (.slice A (8 + (tt - j * 56)) c) (u8s (secRaw l.gen (chunk l.kept j))) := dep 16 _ _ (by kernel_rfl) rfl rfl
        have e16 : a.tmps[38]?.getD undef = _ := (Array.getD_eq_getD_getElem? ..).symm.trans d16
        refine last_enters (f := 81) (args := #[.pointer (some ⟨g, 0, none⟩), .int .i64 ((l.first + j : Nat) : Int), .slice A16 (8 + (tt - j * 56)) C16]) ?_ (wrote_grown (H1.out.below hb) hf D1.out hk1 (l.first + j) HJ.out HS.out HT5.out r16 hb)
        clear old dep hsz hb
        go_simp
      · intro i o hki ho
        have hin : i < 19 := (Array.getElem?_eq_some_iff.1 ho).1
        obtain rfl : i = 18 := by omega
        obtain rfl := Option.some.inj ho
        refine ⟨rfl, fun a w => ?_⟩
        rw [Array.getD_eq_getD_getElem?]
        clear hki ho hin
        go_simp
      · intro a w2 v hR hsz hdf hk fin keep
        obtain ⟨tm, df⟩ := a
        have hx := frame_of [22, 23, 24, 25, 26, 27, 28, 29, 30, 31, 32, 33, 34, 35, 36, 37, 38, 39, 6] (by kernel_rfl) hsz keep
        dsimp only at hdf hx hk
        simp only [List.foldl_cons, List.foldl_nil] at hx
        subst hdf
        clear hsz keep
        rw [hk] at hx
        clear hk
        generalize tm.getD 22 undef = y22 at hx
        generalize tm.getD 23 undef = y23 at hx
        generalize tm.getD 24 undef = y24 at hx
        generalize tm.getD 25 undef = y25 at hx
        generalize tm.getD 26 undef = y26 at hx
        generalize tm.getD 27 undef = y27 at hx
        generalize tm.getD 28 undef = y28 at hx
        generalize tm.getD 29 undef = y29 at hx
        generalize tm.getD 30 undef = y30 at hx
        generalize tm.getD 31 undef = y31 at hx
        generalize tm.getD 32 undef = y32 at hx
        generalize tm.getD 33 undef = y33 at hx
        generalize tm.getD 34 undef = y34 at hx
        generalize tm.getD 35 undef = y35 at hx
        generalize tm.getD 36 undef = y36 at hx
        generalize tm.getD 37 undef = y37 at hx
        generalize tm.getD 38 undef = y38 at hx
        have kn : tm.getD 6 undef = v := fin 18 _ _ (by decide) rfl rfl
        rw [kn] at hx
        clear kn
        clear fin
        simp only [List.setIfInBounds_toArray, List.set_cons_succ, List.set_cons_zero] at hx
        subst hx
        obtain ⟨rfl, hw⟩ := hR
        have hR2 := RUN.out
        have hgo : gr.run ((keptD l).take (j + 1)) = gj.run [keptD1 l j] := by
          rw [TK.out]
          refine run_snoc ?_ _
          rw [← hgj, ← hR2]
        have HG := hide hgo
        clear hgo hR2
        cases hcd : (gj.run [keptD1 l j]).2
        · have hno : gr.run (keptD l) = ((gj.run [keptD1 l j]).1, false) := by
            rw [← List.take_append_drop (j + 1) (keptD l)]
            refine run_no ?_ _
            rw [HG.out, ← hcd]
          have HNO := hide hno
          clear hno
          go_wp2
          go_ret
          rw [HNO.out]
          obtain ⟨d', kv', h1, h2, h3⟩ := hw
          exact ⟨_, rfl, rfl, d', kv', (N1.out.trans h1).more (by omega), h2, O1.out.trans h3⟩
        · go_wp2
          go_roundw
          case rel =>
            obtain ⟨d', kv', h1, h2, h3⟩ := hw
            exact ⟨j + 1, by omega, by go_num, by rw [HG.out]; exact hcd, by rw [HG.out]; exact ⟨d', kv', (N1.out.trans h1).more (by omega), h2, O1.out.trans h3⟩⟩
          case measure => simp [intOf]; omega
    · obtain rfl : j = l.nsec := by omega
      rw [List.take_of_length_le (by rw [keptD_length]; exact Nat.le_refl _)] at hrun hnx
      have HR := hide hrun
      clear hrun
      go_wp2
      go_ret
      rw [HR.out]
      exact ⟨_, rfl, rfl, dj, kvj, hnx.more (by omega), hln, hout⟩
end
section
/- Contracts: a lane's harden, recall, Flush. -/
open Go.RowKit
set_option maxRecDepth 20000
set_option linter.unusedSimpArgs false
set_option linter.unusedVariables false

/-- One of the two. -/
def sel (b : Bool) (x y : Ln) : Ln := cond b x y
theorem sel_t (x y : Ln) : sel true x y = x := rfl
theorem sel_f (x y : Ln) : sel false x y = y := rfl
def Ln.full (l : Ln) : Nat := l.kept.length / 56
def Ln.hard (l : Ln) : Ln := ⟨l.r, l.bank, l.gen, l.first + l.full, l.kept.drop (l.full * 56), (l.kept.drop (l.full * 56)).length, false⟩
def hardD (l : Ln) : List Do := keptD l ++ [.bar]
def flushD (l : Ln) : List Do := (if l.astray then [headD l] else []) ++ hardD l
def recallD (l : Ln) : List Do := if l.astray then [headD l, .bar] else []
def Ln.setFirst (l : Ln) (f : Nat) : Ln := ⟨l.r, l.bank, l.gen, f, l.kept, l.sure, l.astray⟩
def Ln.setKept (l : Ln) (b : List UInt8) : Ln := ⟨l.r, l.bank, l.gen, l.first, b, l.sure, l.astray⟩
def Ln.setSure (l : Ln) (n : Nat) : Ln := ⟨l.r, l.bank, l.gen, l.first, l.kept, n, l.astray⟩
def Ln.setAstray (l : Ln) (b : Bool) : Ln := ⟨l.r, l.bank, l.gen, l.first, l.kept, l.sure, b⟩
theorem hard_eq (l : Ln) : (((l.setFirst (l.first + l.full)).setKept (l.kept.drop (l.full * 56))).setSure (l.kept.length - l.full * 56)).setAstray false = l.hard := by
  unfold Ln.hard Ln.setFirst Ln.setKept Ln.setSure Ln.setAstray
  rw [List.length_drop]
theorem hard_r (l : Ln) (b : Bool) : (sel b l.hard l).r = l.r := by cases b <;> rfl
theorem blkOf_hiA (A : Option Addr) (m k n c n' c' : Nat) : blkOf (.slice (hiA A m k) n c) = blkOf (.slice A n' c') := by
  unfold hiA
  split
  · cases A <;> rfl
  · cases A with
    | none => rfl
    | some a =>
      show some (a.add k).block = some a.block
      unfold Addr.add
      split <;> rfl
theorem Kp.cut {w : World} {A : Option Addr} {c : Nat} {l : List UInt8} (h : Kp w (.slice A l.length c) l) {f : Nat} (hf : f ≤ l.length) : Kp w (.slice (hiA A l.length f) (l.length - f) (l.length - f)) (l.drop f) := by
  obtain ⟨A', c', e, hr, _⟩ := h
  injection e with e1 e2 e3
  subst e1 e3
  have hc := rd_cap hr
  have := Rd.cut hr hf (Nat.le_refl _) hc (Nat.le_refl _)
  rw [List.take_of_length_le (by rw [List.length_drop]; omega)] at this
  exact ⟨_, _, by rw [List.length_drop], this, .inl (by rw [List.length_drop])⟩
section
variable {w w' : World} {X : Nat → Prop} {dg : Nat} {d : Ds} {g : Nat} {l l' : Ln} {kv kv' : Value} {gr : Rg} {k : Nat}
/-- Behind a store into the lane's own block. -/
theorem LnAt.stored (h : LnAt w X dg d g l kv) (hk : Kept (fun k => k = g) w w') (hb : Blk w' g 86 (l'.cells dg kv')) (hkp : Kp w kv' l'.kept) (hsub : ∀ k, blkOf kv' = some k → blkOf kv = some k) : LnAt w' X dg d g l' kv' := by
  have hm := h.many.foreign hk (fun k e => .inl (.inr (.inl e)))
  refine ⟨hm.more (Below.refl _ _) (fun k hk => .inl ?_), h.xg, fun k hk => h.xk k (hsub k hk), hb, ?_⟩
  · rcases hk with h1 | h1 | h1
    · exact .inl h1
    · exact .inr (.inl h1)
    · exact .inr (.inr (hsub k h1))
  · refine hkp.out (X := fun k => k ≠ g) (hk.mono (fun i hi => .inl (fun hn => hn hi))) (fun k hk => (h.xk k (hsub k hk)).2)
theorem kept_set (w : World) (g i : Nat) (u : Value) : Kept (fun k => k = g) w (w.setCell ⟨g, i, none⟩ u) := Kept.setCell w ⟨g, i, none⟩ u
theorem LnAt.setFirst (h : LnAt w X dg d g l kv) (f : Nat) : LnAt (w.setCell ⟨g, 4, none⟩ (.int .i64 (f : Int))) X dg d g (l.setFirst f) kv :=
  h.stored (kept_set _ _ _ _) (h.blk.set_ 4 _) h.kept (fun _ h => h)
theorem LnAt.setSure (h : LnAt w X dg d g l kv) (n : Nat) : LnAt (w.setCell ⟨g, 6, none⟩ (.int .i64 (n : Int))) X dg d g (l.setSure n) kv :=
  h.stored (kept_set _ _ _ _) (h.blk.set_ 6 _) h.kept (fun _ h => h)
theorem LnAt.setAstray (h : LnAt w X dg d g l kv) (b : Bool) : LnAt (w.setCell ⟨g, 7, none⟩ (.bool b)) X dg d g (l.setAstray b) kv :=
  h.stored (kept_set _ _ _ _) (h.blk.set_ 7 _) h.kept (fun _ h => h)
theorem LnAt.setKept (h : LnAt w X dg d g l kv) {b : List UInt8} (hkp : Kp w kv' b) (hsub : ∀ k, blkOf kv' = some k → blkOf kv = some k) : LnAt (w.setCell ⟨g, 5, none⟩ kv') X dg d g (l.setKept b) kv' :=
  h.stored (kept_set _ _ _ _) (h.blk.set_ 5 _) hkp hsub
theorem out_set (h : LnAt w X dg d g l kv) (i : Nat) (u : Value) : Out X w (w.setCell ⟨g, i, none⟩ u) := (kept_set w g i u).mono (fun k hk => .inl (by rw [hk]; exact h.xg))
theorem LnAt.frozen (h : LnAt w X dg d g l kv) (i : Nat) : w.frozen? ⟨g, i, none⟩ = false := h.blk.frozen i
theorem store_runs {o : Oper} {a : Act} {w w' : World} {R : World → Prop} (hrun : (execOp a.eval o).run Try.prog w = .ok .skip w') (hr : R w') : ∃ w', (execOp a.eval o).run Try.prog w = .ok .skip w' ∧ R w' := ⟨w', hrun, hr⟩
end

theorem run_then {g : Rg} {a b : List Do} {g1 : Rg} (h : g.run a = (g1, true)) : g.run (a ++ b) = g1.run b := run_yes h b
set_option maxHeartbeats 8000000 in
theorem harden_ln {w : World} {X : Nat → Prop} {dg : Nat} {d : Ds} {g : Nat} {l : Ln} {kv : Value} {gr : Rg} {k : Nat} (h : LnAt w X dg d g l kv) (hf : l.Fit) (hd : DIs d l.r gr k) (hk : k ≤ 900000) :
    Calls Try.prog 58 #[ptr g] w fun e w' => ∃ v, e = .returned v ∧ v = .int .i64 (cd (gr.run (hardD l)).2) ∧ Went w w' X dg d g (sel (gr.run (hardD l)).2 l.hard l) (gr.run (hardD l)).1 (k + 300) := by
  have hkept := kept_ln h hf hd hk
  have hlen := hf.len
  unfold Ln.len at hlen
  have HFL := hide (show l.full * 56 ≤ l.kept.length by unfold Ln.full; omega)
  have hfull : l.full ≤ 256 := by unfold Ln.full; omega
  have hfst : l.first + l.full ≤ 256 := by unfold Ln.full; omega
  have hq : (l.kept.length : Int).tdiv 56 = (l.full : Int) := by unfold Ln.full; rw [Int.tdiv_eq_ediv_of_nonneg (by omega)]; omega
  clear h hd
  unfold hardD
  unfold ptr at hkept ⊢
  go_enter Try.func58, Try.ntmps58
  rcases hr1 : gr.run (keptD l) with ⟨g1, b1⟩
  rw [hr1] at hkept
  cases b1
  · have HE := hide (run_no hr1 [.bar])
    clear hr1
    go_wp2_with (go_at_call 72; refine hkept.mono ?_; rintro e w1 ⟨v, rfl, rfl, hw⟩; try simp only [cd, Bool.false_eq_true, if_false])
    go_ret
    rw [HE.out]
    exact ⟨_, rfl, rfl, hw⟩
  · have HE := hide (run_yes hr1 [.bar])
    clear hr1
    go_upto_region 4 with (go_at_call 72; refine hkept.mono ?_; rintro e w1 ⟨v, rfl, rfl, dj, kvj, hnx, hln, hout⟩; try simp only [cd, if_true])
    clear hkept
    have H1 := hide hln
    have N1 := hide hnx
    have O1 := hide hout
    obtain ⟨KA, kc, rfl, hkr, _⟩ := id hln.kept
    have HKC := hide (rd_cap hkr)
    clear hln hout hnx hkr
    refine region_last 8 19 [Say.is (.pointer (some ⟨g, 0, none⟩)), Say.is (.pointer (some ⟨g, 0, none⟩)), Say.is (.pointer (some ⟨g, 0, none⟩)), Say.is (ptr dg), Say.is (.pointer (some ⟨g, 0, none⟩)), Say.is (.pointer (some ⟨g, 0, none⟩)), Say.is (.pointer (some ⟨g, 1, none⟩)), Say.is (.int .i64 (l.r : Int))] (fun v w' => v = .int .i64 (cd (g1.run [.bar]).2) ∧ Went w1 w' X dg dj g l (g1.run [.bar]).1 (k + 300)) rfl rfl rfl (by kernel_rfl) (by kernel_rfl) (by kernel_rfl) (by kernel_rfl) (by kernel_rfl) ?_ ?_ ?_ ?_
    · intro i o hik ho a w2 hb hsz old dep
      match i, ho with
      | 0, ho =>
        obtain rfl := Option.some.inj ho
        have o0 : a.tmps.getD 0 undef = _ := old 0 (by kernel_rfl)
        rw [if_pos (wanted_none rfl)]
        refine grow_same (v := .pointer (some ⟨g, 0, none⟩)) ?_ rfl
        clear old dep ho hsz hb
        go_simp
      | 1, ho =>
        obtain rfl := Option.some.inj ho
        have d0 : a.tmps.getD 11 undef = .pointer (some ⟨g, 0, none⟩) := dep 0 _ _ (by kernel_rfl) rfl rfl
        have e0 : a.tmps[11]?.getD undef = _ := (Array.getD_eq_getD_getElem? ..).symm.trans d0
        rw [if_pos (wanted_none rfl)]
        refine grow_same (v := .pointer (some ⟨g, 0, none⟩)) ?_ rfl
        clear old dep ho hsz hb
        go_simp
      | 2, ho =>
        obtain rfl := Option.some.inj ho
        have d1 : a.tmps.getD 12 undef = .pointer (some ⟨g, 0, none⟩) := dep 1 _ _ (by kernel_rfl) rfl rfl
        have e1 : a.tmps[12]?.getD undef = _ := (Array.getD_eq_getD_getElem? ..).symm.trans d1
        rw [if_pos (wanted_none rfl)]
        refine grow_same (v := .pointer (some ⟨g, 0, none⟩)) ?_ rfl
        clear old dep ho hsz hb
        go_simp
      | 3, ho =>
        obtain rfl := Option.some.inj ho
        have d2 : a.tmps.getD 13 undef = .pointer (some ⟨g, 0, none⟩) := dep 2 _ _ (by kernel_rfl) rfl rfl
        have e2 : a.tmps[13]?.getD undef = _ := (Array.getD_eq_getD_getElem? ..).symm.trans d2
        rw [if_pos (wanted_none rfl)]
        obtain ⟨hc0, hc1, hc2, hc3, hc4, hc5, hc6, hc7⟩ := (H1.out.below hb).cell
        refine grow_same (v := ptr dg) ?_ rfl
        clear old dep ho hsz hb
        go_simp
      | 4, ho =>
        obtain rfl := Option.some.inj ho
        have o0 : a.tmps.getD 0 undef = _ := old 0 (by kernel_rfl)
        rw [if_pos (wanted_none rfl)]
        refine grow_same (v := .pointer (some ⟨g, 0, none⟩)) ?_ rfl
        clear old dep ho hsz hb
        go_simp
      | 5, ho =>
        obtain rfl := Option.some.inj ho
        have d4 : a.tmps.getD 15 undef = .pointer (some ⟨g, 0, none⟩) := dep 4 _ _ (by kernel_rfl) rfl rfl
        have e4 : a.tmps[15]?.getD undef = _ := (Array.getD_eq_getD_getElem? ..).symm.trans d4
        rw [if_pos (wanted_none rfl)]
        refine grow_same (v := .pointer (some ⟨g, 0, none⟩)) ?_ rfl
        clear old dep ho hsz hb
        go_simp
      | 6, ho =>
        obtain rfl := Option.some.inj ho
        have d5 : a.tmps.getD 16 undef = .pointer (some ⟨g, 0, none⟩) := dep 5 _ _ (by kernel_rfl) rfl rfl
        have e5 : a.tmps[16]?.getD undef = _ := (Array.getD_eq_getD_getElem? ..).symm.trans d5
        rw [if_pos (wanted_none rfl)]
        refine grow_same (v := .pointer (some ⟨g, 1, none⟩)) ?_ rfl
        clear old dep ho hsz hb
        go_simp
      | 7, ho =>
        obtain rfl := Option.some.inj ho
        have d6 : a.tmps.getD 17 undef = .pointer (some ⟨g, 1, none⟩) := dep 6 _ _ (by kernel_rfl) rfl rfl
        have e6 : a.tmps[17]?.getD undef = _ := (Array.getD_eq_getD_getElem? ..).symm.trans d6
        rw [if_pos (wanted_none rfl)]
        obtain ⟨hc0, hc1, hc2, hc3, hc4, hc5, hc6, hc7⟩ := (H1.out.below hb).cell
        refine grow_same (v := .int .i64 (l.r : Int)) ?_ rfl
        clear old dep ho hsz hb
        go_simp
      | i + 8, ho => exact absurd hik (by omega)
    · intro a w2 hb hsz old dep
      have d3 : a.tmps.getD 14 undef = ptr dg := dep 3 _ _ (by kernel_rfl) rfl rfl
      have e3 : a.tmps[14]?.getD undef = _ := (Array.getD_eq_getD_getElem? ..).symm.trans d3
      have d7 : a.tmps.getD 18 undef = .int .i64 (l.r : Int) := dep 7 _ _ (by kernel_rfl) rfl rfl
      have e7 : a.tmps[18]?.getD undef = _ := (Array.getD_eq_getD_getElem? ..).symm.trans d7
      refine last_enters (f := 60) (args := #[ptr dg, .int .i64 (l.r : Int)]) ?_ (barred_ln (H1.out.below hb) N1.out.is hb)
      clear old dep hsz hb
      go_simp
    · intro i o hki ho
      have hin : i < 10 := (Array.getElem?_eq_some_iff.1 ho).1
      obtain rfl : i = 9 := by omega
      obtain rfl := Option.some.inj ho
      refine ⟨rfl, fun a w => ?_⟩
      rw [Array.getD_eq_getD_getElem?]
      clear hki ho hin
      go_simp
    · intro a w2 v hR hsz hdf hk fin keep
      obtain ⟨tm, df⟩ := a
      have hx := frame_of [11, 12, 13, 14, 15, 16, 17, 18, 19, 4] (by kernel_rfl) hsz keep
      dsimp only at hdf hx hk
      simp only [List.foldl_cons, List.foldl_nil] at hx
      subst hdf
      clear hsz keep
      rw [hk] at hx
      clear hk
      generalize tm.getD 11 undef = y11 at hx
      generalize tm.getD 12 undef = y12 at hx
      generalize tm.getD 13 undef = y13 at hx
      generalize tm.getD 14 undef = y14 at hx
      generalize tm.getD 15 undef = y15 at hx
      generalize tm.getD 16 undef = y16 at hx
      generalize tm.getD 17 undef = y17 at hx
      generalize tm.getD 18 undef = y18 at hx
      have kn : tm.getD 4 undef = v := fin 9 _ _ (by decide) rfl rfl
      rw [kn] at hx
      clear kn
      clear fin
      simp only [List.setIfInBounds_toArray, List.set_cons_succ, List.set_cons_zero] at hx
      subst hx
      obtain ⟨rfl, dk, kvk, hnx, hln, hout⟩ := hR
      have N3 := hide (N1.out.trans hnx)
      have O3 := hide (O1.out.trans hout)
      clear hnx hout
      cases hb : (g1.run [.bar]).2
      · simp only [cd, Bool.false_eq_true, if_false]
        go_wp2
        go_ret
        rw [HE.out, hb]
        exact ⟨_, rfl, rfl, dk, kvk, N3.out, hln, O3.out⟩
      · simp only [cd, if_true]
        obtain ⟨KA, kc, rfl, hkr, _⟩ := id hln.kept
        have HKC := hide (rd_cap hkr)
        have H2 := hide hln
        clear hkr
        obtain ⟨c0, c1, c2, c3, c4, c5, c6, c7⟩ := hln.cell
        have z4 := hln.frozen 4
        clear hln
        go_upto_region 9 with fail
        have H3 := hide (H2.out.setFirst (l.first + l.full))
        have ecast : (l.first : Int) + (l.full : Int) = ((l.first + l.full : Nat) : Int) := by omega
        have O4 := hide (O3.out.trans (out_set H2.out 4 (.int .i64 ((l.first + l.full : Nat) : Int))))
        try rw [ecast] at *
        clear c0 c1 c2 c3 c4 c5 c6 c7 z4
        generalize w2.setCell ⟨g, 4, none⟩ (.int .i64 ((l.first + l.full : Nat) : Int)) = w3 at *
        refine region_store 20 [Say.is (.pointer (some ⟨g, 0, none⟩)), Say.is (.pointer (some ⟨g, 0, none⟩)), Say.is (.pointer (some ⟨g, 0, none⟩)), Say.is (.pointer (some ⟨g, 5, none⟩)), Say.is (.slice KA l.kept.length kc), Say.is (.int .i64 (l.full : Int)), Say.is (.int .i64 ((l.full * 56 : Nat) : Int)), Say.is (.pointer (some ⟨g, 0, none⟩)), Say.is (.pointer (some ⟨g, 0, none⟩)), Say.is (.pointer (some ⟨g, 5, none⟩)), Say.is (.slice KA l.kept.length kc), Say.is (.int .i64 (l.kept.length : Int)), Say.is (.pointer (some ⟨g, 0, none⟩)), Say.is (.pointer (some ⟨g, 0, none⟩)), Say.is (.pointer (some ⟨g, 5, none⟩)), Say.is (.slice KA l.kept.length kc), Say.is (.int .i64 (l.kept.length : Int)), Say.is (.slice (hiA KA l.kept.length (l.full * 56)) (l.kept.length - l.full * 56) (l.kept.length - l.full * 56)), Say.is (.pointer (some ⟨g, 0, none⟩)), Say.is (.pointer (some ⟨g, 5, none⟩))] (fun w' => ∃ w2, Below w3.heap.size w3 w2 ∧ w' = w2.setCell ⟨g, 5, none⟩ (.slice (hiA KA l.kept.length (l.full * 56)) (l.kept.length - l.full * 56) (l.kept.length - l.full * 56))) rfl rfl rfl rfl (by kernel_rfl) (by kernel_rfl) (by kernel_rfl) (by kernel_rfl) (by kernel_rfl) ?_ ?_ ?_
        · intro i o hik ho a w2 hb hsz old dep
          match i, ho with
          | 0, ho =>
            obtain rfl := Option.some.inj ho
            have o0 : a.tmps.getD 0 undef = _ := old 0 (by kernel_rfl)
            rw [if_pos (wanted_none rfl)]
            refine grow_same (v := .pointer (some ⟨g, 0, none⟩)) ?_ rfl
            clear old dep ho hsz hb
            go_simp
          | 1, ho =>
            obtain rfl := Option.some.inj ho
            have o0 : a.tmps.getD 0 undef = _ := old 0 (by kernel_rfl)
            rw [if_pos (wanted_none rfl)]
            refine grow_same (v := .pointer (some ⟨g, 0, none⟩)) ?_ rfl
            clear old dep ho hsz hb
            go_simp
          | 2, ho =>
            obtain rfl := Option.some.inj ho
            have d1 : a.tmps.getD 38 undef = .pointer (some ⟨g, 0, none⟩) := dep 1 _ _ (by kernel_rfl) rfl rfl
            have e1 : a.tmps[38]?.getD undef = _ := (Array.getD_eq_getD_getElem? ..).symm.trans d1
            rw [if_pos (wanted_none rfl)]
            refine grow_same (v := .pointer (some ⟨g, 0, none⟩)) ?_ rfl
            clear old dep ho hsz hb
            go_simp
          | 3, ho =>
            obtain rfl := Option.some.inj ho
            have d2 : a.tmps.getD 39 undef = .pointer (some ⟨g, 0, none⟩) := dep 2 _ _ (by kernel_rfl) rfl rfl
            have e2 : a.tmps[39]?.getD undef = _ := (Array.getD_eq_getD_getElem? ..).symm.trans d2
            rw [if_pos (wanted_none rfl)]
            refine grow_same (v := .pointer (some ⟨g, 5, none⟩)) ?_ rfl
            clear old dep ho hsz hb
            go_simp
          | 4, ho =>
            obtain rfl := Option.some.inj ho
            have d3 : a.tmps.getD 40 undef = .pointer (some ⟨g, 5, none⟩) := dep 3 _ _ (by kernel_rfl) rfl rfl
            have e3 : a.tmps[40]?.getD undef = _ := (Array.getD_eq_getD_getElem? ..).symm.trans d3
            rw [if_pos (wanted_none rfl)]
            obtain ⟨hc0, hc1, hc2, hc3, hc4, hc5, hc6, hc7⟩ := (H3.out.below hb).cell
            refine grow_same (v := .slice KA l.kept.length kc) ?_ rfl
            clear old dep ho hsz hb
            go_simp
          | 5, ho =>
            obtain rfl := Option.some.inj ho
            have o5 : a.tmps.getD 5 undef = _ := old 5 (by kernel_rfl)
            rw [if_pos (wanted_none rfl)]
            refine grow_same (v := .int .i64 (l.full : Int)) ?_ rfl
            clear old dep ho hsz hb
            go_simp
          | 6, ho =>
            obtain rfl := Option.some.inj ho
            have d5 : a.tmps.getD 42 undef = .int .i64 (l.full : Int) := dep 5 _ _ (by kernel_rfl) rfl rfl
            have e5 : a.tmps[42]?.getD undef = _ := (Array.getD_eq_getD_getElem? ..).symm.trans d5
            rw [if_pos (wanted_none rfl)]
            have hfl := HFL.out
            refine grow_same (v := .int .i64 ((l.full * 56 : Nat) : Int)) ?_ rfl
            clear old dep ho hsz hb
            go_simp
            first | omega | (rw [IntKind.wrap_i64]; omega)
          | 7, ho =>
            obtain rfl := Option.some.inj ho
            have o0 : a.tmps.getD 0 undef = _ := old 0 (by kernel_rfl)
            rw [if_pos (wanted_none rfl)]
            refine grow_same (v := .pointer (some ⟨g, 0, none⟩)) ?_ rfl
            clear old dep ho hsz hb
            go_simp
          | 8, ho =>
            obtain rfl := Option.some.inj ho
            have d7 : a.tmps.getD 44 undef = .pointer (some ⟨g, 0, none⟩) := dep 7 _ _ (by kernel_rfl) rfl rfl
            have e7 : a.tmps[44]?.getD undef = _ := (Array.getD_eq_getD_getElem? ..).symm.trans d7
            rw [if_pos (wanted_none rfl)]
            refine grow_same (v := .pointer (some ⟨g, 0, none⟩)) ?_ rfl
            clear old dep ho hsz hb
            go_simp
          | 9, ho =>
            obtain rfl := Option.some.inj ho
            have d8 : a.tmps.getD 45 undef = .pointer (some ⟨g, 0, none⟩) := dep 8 _ _ (by kernel_rfl) rfl rfl
            have e8 : a.tmps[45]?.getD undef = _ := (Array.getD_eq_getD_getElem? ..).symm.trans d8
            rw [if_pos (wanted_none rfl)]
            refine grow_same (v := .pointer (some ⟨g, 5, none⟩)) ?_ rfl
            clear old dep ho hsz hb
            go_simp
          | 10, ho =>
            obtain rfl := Option.some.inj ho
            have d9 : a.tmps.getD 46 undef = .pointer (some ⟨g, 5, none⟩) := dep 9 _ _ (by kernel_rfl) rfl rfl
            have e9 : a.tmps[46]?.getD undef = _ := (Array.getD_eq_getD_getElem? ..).symm.trans d9
            rw [if_pos (wanted_none rfl)]
            obtain ⟨hc0, hc1, hc2, hc3, hc4, hc5, hc6, hc7⟩ := (H3.out.below hb).cell
            refine grow_same (v := .slice KA l.kept.length kc) ?_ rfl
            clear old dep ho hsz hb
            go_simp
          | 11, ho =>
            obtain rfl := Option.some.inj ho
            have d10 : a.tmps.getD 47 undef = .slice KA l.kept.length kc := dep 10 _ _ (by kernel_rfl) rfl rfl
            have e10 : a.tmps[47]?.getD undef = _ := (Array.getD_eq_getD_getElem? ..).symm.trans d10
            rw [if_pos (wanted_none rfl)]
            refine grow_same (v := .int .i64 (l.kept.length : Int)) ?_ rfl
            clear old dep ho hsz hb
            go_simp
          | 12, ho =>
            obtain rfl := Option.some.inj ho
            have o0 : a.tmps.getD 0 undef = _ := old 0 (by kernel_rfl)
            rw [if_pos (wanted_none rfl)]
            refine grow_same (v := .pointer (some ⟨g, 0, none⟩)) ?_ rfl
            clear old dep ho hsz hb
            go_simp
          | 13, ho =>
            obtain rfl := Option.some.inj ho
            have d12 : a.tmps.getD 49 undef = .pointer (some ⟨g, 0, none⟩) := dep 12 _ _ (by kernel_rfl) rfl rfl
            have e12 : a.tmps[49]?.getD undef = _ := (Array.getD_eq_getD_getElem? ..).symm.trans d12
            rw [if_pos (wanted_none rfl)]
            refine grow_same (v := .pointer (some ⟨g, 0, none⟩)) ?_ rfl
            clear old dep ho hsz hb
            go_simp
          | 14, ho =>
            obtain rfl := Option.some.inj ho
            have d13 : a.tmps.getD 50 undef = .pointer (some ⟨g, 0, none⟩) := dep 13 _ _ (by kernel_rfl) rfl rfl
            have e13 : a.tmps[50]?.getD undef = _ := (Array.getD_eq_getD_getElem? ..).symm.trans d13
            rw [if_pos (wanted_none rfl)]
            refine grow_same (v := .pointer (some ⟨g, 5, none⟩)) ?_ rfl
            clear old dep ho hsz hb
            go_simp
          | 15, ho =>
            obtain rfl := Option.some.inj ho
            have d14 : a.tmps.getD 51 undef = .pointer (some ⟨g, 5, none⟩) := dep 14 _ _ (by kernel_rfl) rfl rfl
            have e14 : a.tmps[51]?.getD undef = _ := (Array.getD_eq_getD_getElem? ..).symm.trans d14
            rw [if_pos (wanted_none rfl)]
            obtain ⟨hc0, hc1, hc2, hc3, hc4, hc5, hc6, hc7⟩ := (H3.out.below hb).cell
            refine grow_same (v := .slice KA l.kept.length kc) ?_ rfl
            clear old dep ho hsz hb
            go_simp
          | 16, ho =>
            obtain rfl := Option.some.inj ho
            have d15 : a.tmps.getD 52 undef = .slice KA l.kept.length kc := dep 15 _ _ (by kernel_rfl) rfl rfl
            have e15 : a.tmps[52]?.getD undef = _ := (Array.getD_eq_getD_getElem? ..).symm.trans d15
            rw [if_pos (wanted_none rfl)]
            refine grow_same (v := .int .i64 (l.kept.length : Int)) ?_ rfl
            clear old dep ho hsz hb
            go_simp
          | 17, ho =>
            obtain rfl := Option.some.inj ho
            have d4 : a.tmps.getD 41 undef = .slice KA l.kept.length kc := dep 4 _ _ (by kernel_rfl) rfl rfl
            have e4 : a.tmps[41]?.getD undef = _ := (Array.getD_eq_getD_getElem? ..).symm.trans d4
            have d6 : a.tmps.getD 43 undef = .int .i64 ((l.full * 56 : Nat) : Int) := dep 6 _ _ (by kernel_rfl) rfl rfl
            have e6 : a.tmps[43]?.getD undef = _ := (Array.getD_eq_getD_getElem? ..).symm.trans d6
            have d11 : a.tmps.getD 48 undef = .int .i64 (l.kept.length : Int) := dep 11 _ _ (by kernel_rfl) rfl rfl
            have e11 : a.tmps[48]?.getD undef = _ := (Array.getD_eq_getD_getElem? ..).symm.trans d11
            have d16 : a.tmps.getD 53 undef = .int .i64 (l.kept.length : Int) := dep 16 _ _ (by kernel_rfl) rfl rfl
            have e16 : a.tmps[53]?.getD undef = _ := (Array.getD_eq_getD_getElem? ..).symm.trans d16
            rw [if_pos (wanted_none rfl)]
            refine grow_same (exec_cut (l.full * 56) l.kept.length l.kept.length rfl d4 d6 d11 d16 HFL.out (Nat.le_refl _) HKC.out) rfl
          | 18, ho =>
            obtain rfl := Option.some.inj ho
            have d0 : a.tmps.getD 37 undef = .pointer (some ⟨g, 0, none⟩) := dep 0 _ _ (by kernel_rfl) rfl rfl
            have e0 : a.tmps[37]?.getD undef = _ := (Array.getD_eq_getD_getElem? ..).symm.trans d0
            rw [if_pos (wanted_none rfl)]
            refine grow_same (v := .pointer (some ⟨g, 0, none⟩)) ?_ rfl
            clear old dep ho hsz hb
            go_simp
          | 19, ho =>
            obtain rfl := Option.some.inj ho
            have d18 : a.tmps.getD 55 undef = .pointer (some ⟨g, 0, none⟩) := dep 18 _ _ (by kernel_rfl) rfl rfl
            have e18 : a.tmps[55]?.getD undef = _ := (Array.getD_eq_getD_getElem? ..).symm.trans d18
            rw [if_pos (wanted_none rfl)]
            refine grow_same (v := .pointer (some ⟨g, 5, none⟩)) ?_ rfl
            clear old dep ho hsz hb
            go_simp
          | i + 20, ho => exact absurd hik (by omega)
        · intro a w2 hb hsz old dep
          have d17 : a.tmps.getD 54 undef = .slice (hiA KA l.kept.length (l.full * 56)) (l.kept.length - l.full * 56) (l.kept.length - l.full * 56) := dep 17 _ _ (by kernel_rfl) rfl rfl
          have e17 : a.tmps[54]?.getD undef = _ := (Array.getD_eq_getD_getElem? ..).symm.trans d17
          have d19 : a.tmps.getD 56 undef = .pointer (some ⟨g, 5, none⟩) := dep 19 _ _ (by kernel_rfl) rfl rfl
          have e19 : a.tmps[56]?.getD undef = _ := (Array.getD_eq_getD_getElem? ..).symm.trans d19
          obtain ⟨hc0, hc1, hc2, hc3, hc4, hc5, hc6, hc7⟩ := (H3.out.below hb).cell
          have hz := (H3.out.below hb).frozen 5
          refine store_runs (w' := w2.setCell ⟨g, 5, none⟩ (.slice (hiA KA l.kept.length (l.full * 56)) (l.kept.length - l.full * 56) (l.kept.length - l.full * 56))) ?_ ⟨w2, hb, rfl⟩
          clear old dep hsz hb
          go_simp
        · intro a w2 hR hsz hdf keep
          obtain ⟨tm, df⟩ := a
          have hx := frame_of [37, 38, 39, 40, 41, 42, 43, 44, 45, 46, 47, 48, 49, 50, 51, 52, 53, 54, 55, 56] (by kernel_rfl) hsz keep
          dsimp only at hdf hx
          simp only [List.foldl_cons, List.foldl_nil] at hx
          subst hdf
          clear hsz keep
          generalize tm.getD 37 undef = y37 at hx
          generalize tm.getD 38 undef = y38 at hx
          generalize tm.getD 39 undef = y39 at hx
          generalize tm.getD 40 undef = y40 at hx
          generalize tm.getD 41 undef = y41 at hx
          generalize tm.getD 42 undef = y42 at hx
          generalize tm.getD 43 undef = y43 at hx
          generalize tm.getD 44 undef = y44 at hx
          generalize tm.getD 45 undef = y45 at hx
          generalize tm.getD 46 undef = y46 at hx
          generalize tm.getD 47 undef = y47 at hx
          generalize tm.getD 48 undef = y48 at hx
          generalize tm.getD 49 undef = y49 at hx
          generalize tm.getD 50 undef = y50 at hx
          generalize tm.getD 51 undef = y51 at hx
          generalize tm.getD 52 undef = y52 at hx
          generalize tm.getD 53 undef = y53 at hx
          generalize tm.getD 54 undef = y54 at hx
          generalize tm.getD 55 undef = y55 at hx
          generalize tm.getD 56 undef = y56 at hx
          simp only [List.setIfInBounds_toArray, List.set_cons_succ, List.set_cons_zero] at hx
          subst hx
          obtain ⟨w4, hb4, rfl⟩ := hR
          have H4 := hide ((H3.out.below hb4).setKept (Kp.cut (H3.out.below hb4).kept HFL.out) (fun k hk => by rwa [blkOf_hiA KA _ _ _ _ l.kept.length kc] at hk))
          have O5 := hide (O4.out.trans ((Out.of_below hb4).trans (out_set (H3.out.below hb4) 5 (.slice (hiA KA l.kept.length (l.full * 56)) (l.kept.length - l.full * 56) (l.kept.length - l.full * 56)))))
          clear hb4
          generalize w4.setCell ⟨g, 5, none⟩ (.slice (hiA KA l.kept.length (l.full * 56)) (l.kept.length - l.full * 56) (l.kept.length - l.full * 56)) = w5 at *
          obtain ⟨c0, c1, c2, c3, c4, c5, c6, c7⟩ := H4.out.cell
          have z6 := H4.out.frozen 6
          have z7 := H4.out.frozen 7
          go_wp2
          go_ret
          rw [HE.out, hb]
          have H5 := H4.out.setSure (l.kept.length - l.full * 56)
          have H6 := H5.setAstray false
          have O6 := (O5.out.trans (out_set H4.out 6 (.int .i64 ((l.kept.length - l.full * 56 : Nat) : Int)))).trans (out_set H5 7 (.bool false))
          rw [hard_eq] at H6
          exact ⟨_, rfl, rfl, dk, _, N3.out, H6, O6⟩

set_option maxHeartbeats 8000000 in
theorem recall_ln {w : World} {X : Nat → Prop} {dg : Nat} {d : Ds} {g : Nat} {l : Ln} {kv : Value} {gr : Rg} {k : Nat} (h : LnAt w X dg d g l kv) (hf : l.Fit) (hd : DIs d l.r gr k) (hk : k ≤ 900000) :
    Calls Try.prog 56 #[ptr g] w fun e w' => ∃ v, e = .returned v ∧ v = .int .i64 (cd (gr.run (recallD l)).2) ∧ Went w w' X dg d g (sel (gr.run (recallD l)).2 (l.setAstray false) l) (gr.run (recallD l)).1 (k + 1) := by
  have hhead := head_ln h hf hd (by omega)
  obtain ⟨c0, c1, c2, c3, c4, c5, c6, c7⟩ := h.cell
  unfold ptr at hhead ⊢
  unfold recallD
  cases ha : l.astray
  · rw [ha] at c7
    have H0 := hide h
    clear hhead h
    go_enter Try.func56, Try.ntmps56
    go_wp2
    go_ret
    have e : l.setAstray false = l := by unfold Ln.setAstray; rw [← ha]
    refine ⟨_, rfl, rfl, d, kv, (hd.next).more (by omega), ?_, Out.of_below (Below.refl _ _)⟩
    show LnAt w X dg d g (l.setAstray false) kv
    rw [e]
    exact H0.out
  · rw [ha] at c7
    clear h
    have ebr : (if true = true then [headD l, Do.bar] else []) = [headD l] ++ [Do.bar] := rfl
    rw [ebr]
    rcases hr1 : gr.run [headD l] with ⟨g1, b1⟩
    rw [hr1] at hhead
    cases b1
    · have HE : Hid (gr.run [headD l, Do.bar] = (g1, false)) := hide (run_no hr1 [Do.bar])
      clear hr1
      go_enter Try.func56, Try.ntmps56
      go_wp2_with (go_at_call 59; refine hhead.mono ?_; rintro e w1 ⟨v, rfl, rfl, hw⟩; try simp only [cd, Bool.false_eq_true, if_false])
      go_ret
      rw [HE.out]
      exact ⟨_, rfl, rfl, hw⟩
    · have HE : Hid (gr.run [headD l, Do.bar] = g1.run [Do.bar]) := hide (run_yes hr1 [Do.bar])
      clear hr1
      go_enter Try.func56, Try.ntmps56
      go_upto_region 6 with (go_at_call 59; refine hhead.mono ?_; rintro e w1 ⟨v, rfl, rfl, dj, kvj, hnx, hln, hout⟩; try simp only [cd, if_true])
      clear hhead c0 c1 c2 c3 c4 c5 c6 c7
      have H1 := hide hln
      have N1 := hide hnx
      have O1 := hide hout
      obtain ⟨KA, kc, rfl, hkr, _⟩ := id hln.kept
      clear hln hout hnx hkr
      refine region_last 8 23 [Say.is (.pointer (some ⟨g, 0, none⟩)), Say.is (.pointer (some ⟨g, 0, none⟩)), Say.is (.pointer (some ⟨g, 0, none⟩)), Say.is (ptr dg), Say.is (.pointer (some ⟨g, 0, none⟩)), Say.is (.pointer (some ⟨g, 0, none⟩)), Say.is (.pointer (some ⟨g, 1, none⟩)), Say.is (.int .i64 (l.r : Int))] (fun v w' => v = .int .i64 (cd (g1.run [.bar]).2) ∧ Went w1 w' X dg dj g l (g1.run [.bar]).1 (k + 1)) rfl rfl rfl (by kernel_rfl) (by kernel_rfl) (by kernel_rfl) (by kernel_rfl) (by kernel_rfl) ?_ ?_ ?_ ?_
      · intro i o hik ho a w2 hb hsz old dep
        match i, ho with
        | 0, ho =>
          obtain rfl := Option.some.inj ho
          have o0 : a.tmps.getD 0 undef = _ := old 0 (by kernel_rfl)
          rw [if_pos (wanted_none rfl)]
          refine grow_same (v := .pointer (some ⟨g, 0, none⟩)) ?_ rfl
          clear old dep ho hsz hb
          go_simp
        | 1, ho =>
          obtain rfl := Option.some.inj ho
          have d0 : a.tmps.getD 15 undef = .pointer (some ⟨g, 0, none⟩) := dep 0 _ _ (by kernel_rfl) rfl rfl
          have e0 : a.tmps[15]?.getD undef = _ := (Array.getD_eq_getD_getElem? ..).symm.trans d0
          rw [if_pos (wanted_none rfl)]
          refine grow_same (v := .pointer (some ⟨g, 0, none⟩)) ?_ rfl
          clear old dep ho hsz hb
          go_simp
        | 2, ho =>
          obtain rfl := Option.some.inj ho
          have d1 : a.tmps.getD 16 undef = .pointer (some ⟨g, 0, none⟩) := dep 1 _ _ (by kernel_rfl) rfl rfl
          have e1 : a.tmps[16]?.getD undef = _ := (Array.getD_eq_getD_getElem? ..).symm.trans d1
          rw [if_pos (wanted_none rfl)]
          refine grow_same (v := .pointer (some ⟨g, 0, none⟩)) ?_ rfl
          clear old dep ho hsz hb
          go_simp
        | 3, ho =>
          obtain rfl := Option.some.inj ho
          have d2 : a.tmps.getD 17 undef = .pointer (some ⟨g, 0, none⟩) := dep 2 _ _ (by kernel_rfl) rfl rfl
          have e2 : a.tmps[17]?.getD undef = _ := (Array.getD_eq_getD_getElem? ..).symm.trans d2
          rw [if_pos (wanted_none rfl)]
          obtain ⟨hc0, hc1, hc2, hc3, hc4, hc5, hc6, hc7⟩ := (H1.out.below hb).cell
          refine grow_same (v := ptr dg) ?_ rfl
          clear old dep ho hsz hb
          go_simp
        | 4, ho =>
          obtain rfl := Option.some.inj ho
          have o0 : a.tmps.getD 0 undef = _ := old 0 (by kernel_rfl)
          rw [if_pos (wanted_none rfl)]
          refine grow_same (v := .pointer (some ⟨g, 0, none⟩)) ?_ rfl
          clear old dep ho hsz hb
          go_simp
        | 5, ho =>
          obtain rfl := Option.some.inj ho
          have d4 : a.tmps.getD 19 undef = .pointer (some ⟨g, 0, none⟩) := dep 4 _ _ (by kernel_rfl) rfl rfl
          have e4 : a.tmps[19]?.getD undef = _ := (Array.getD_eq_getD_getElem? ..).symm.trans d4
          rw [if_pos (wanted_none rfl)]
          refine grow_same (v := .pointer (some ⟨g, 0, none⟩)) ?_ rfl
          clear old dep ho hsz hb
          go_simp
        | 6, ho =>
          obtain rfl := Option.some.inj ho
          have d5 : a.tmps.getD 20 undef = .pointer (some ⟨g, 0, none⟩) := dep 5 _ _ (by kernel_rfl) rfl rfl
          have e5 : a.tmps[20]?.getD undef = _ := (Array.getD_eq_getD_getElem? ..).symm.trans d5
          rw [if_pos (wanted_none rfl)]
          refine grow_same (v := .pointer (some ⟨g, 1, none⟩)) ?_ rfl
          clear old dep ho hsz hb
          go_simp
        | 7, ho =>
          obtain rfl := Option.some.inj ho
          have d6 : a.tmps.getD 21 undef = .pointer (some ⟨g, 1, none⟩) := dep 6 _ _ (by kernel_rfl) rfl rfl
          have e6 : a.tmps[21]?.getD undef = _ := (Array.getD_eq_getD_getElem? ..).symm.trans d6
          rw [if_pos (wanted_none rfl)]
          obtain ⟨hc0, hc1, hc2, hc3, hc4, hc5, hc6, hc7⟩ := (H1.out.below hb).cell
          refine grow_same (v := .int .i64 (l.r : Int)) ?_ rfl
          clear old dep ho hsz hb
          go_simp
        | i + 8, ho => exact absurd hik (by omega)
      · intro a w2 hb hsz old dep
        have d3 : a.tmps.getD 18 undef = ptr dg := dep 3 _ _ (by kernel_rfl) rfl rfl
        have e3 : a.tmps[18]?.getD undef = _ := (Array.getD_eq_getD_getElem? ..).symm.trans d3
        have d7 : a.tmps.getD 22 undef = .int .i64 (l.r : Int) := dep 7 _ _ (by kernel_rfl) rfl rfl
        have e7 : a.tmps[22]?.getD undef = _ := (Array.getD_eq_getD_getElem? ..).symm.trans d7
        refine last_enters (f := 60) (args := #[ptr dg, .int .i64 (l.r : Int)]) ?_ (barred_ln (H1.out.below hb) N1.out.is hb)
        clear old dep hsz hb
        go_simp
      · intro i o hki ho
        have hin : i < 10 := (Array.getElem?_eq_some_iff.1 ho).1
        obtain rfl : i = 9 := by omega
        obtain rfl := Option.some.inj ho
        refine ⟨rfl, fun a w => ?_⟩
        rw [Array.getD_eq_getD_getElem?]
        clear hki ho hin
        go_simp
      · intro a w2 v hR hsz hdf hk fin keep
        obtain ⟨tm, df⟩ := a
        have hx := frame_of [15, 16, 17, 18, 19, 20, 21, 22, 23, 4] (by kernel_rfl) hsz keep
        dsimp only at hdf hx hk
        simp only [List.foldl_cons, List.foldl_nil] at hx
        subst hdf
        clear hsz keep
        rw [hk] at hx
        clear hk
        generalize tm.getD 15 undef = y15 at hx
        generalize tm.getD 16 undef = y16 at hx
        generalize tm.getD 17 undef = y17 at hx
        generalize tm.getD 18 undef = y18 at hx
        generalize tm.getD 19 undef = y19 at hx
        generalize tm.getD 20 undef = y20 at hx
        generalize tm.getD 21 undef = y21 at hx
        generalize tm.getD 22 undef = y22 at hx
        have kn : tm.getD 4 undef = v := fin 9 _ _ (by decide) rfl rfl
        rw [kn] at hx
        clear kn
        clear fin
        simp only [List.setIfInBounds_toArray, List.set_cons_succ, List.set_cons_zero] at hx
        subst hx
        obtain ⟨rfl, dk, kvk, hnx, hln, hout⟩ := hR
        have N3 := hide (N1.out.trans hnx)
        have O3 := hide (O1.out.trans hout)
        clear hnx hout
        cases hb : (g1.run [.bar]).2
        · simp only [cd, Bool.false_eq_true, if_false]
          go_wp2
          go_ret
          rw [HE.out, hb]
          exact ⟨_, rfl, rfl, dk, kvk, N3.out, hln, O3.out⟩
        · simp only [cd, if_true]
          have H2 := hide hln
          obtain ⟨c0, c1, c2, c3, c4, c5, c6, c7⟩ := hln.cell
          have z7 := hln.frozen 7
          clear hln
          go_wp2
          go_ret
          rw [HE.out, hb]
          exact ⟨_, rfl, rfl, dk, kvk, N3.out, H2.out.setAstray false, O3.out.trans (out_set H2.out 7 (.bool false))⟩

set_option maxHeartbeats 8000000 in
theorem flush_ln {w : World} {X : Nat → Prop} {dg : Nat} {d : Ds} {g : Nat} {l : Ln} {kv : Value} {gr : Rg} {k : Nat} (h : LnAt w X dg d g l kv) (hf : l.Fit) (hd : DIs d l.r gr k) (hk : k ≤ 800000) (hne : l.sure ≠ l.kept.length) :
    Calls Try.prog 64 #[ptr g] w fun e w' => ∃ v, e = .returned v ∧ v = .int .i64 (cd (gr.run (flushD l)).2) ∧ Went w w' X dg d g (sel (gr.run (flushD l)).2 l.hard l) (gr.run (flushD l)).1 (k + 301) := by
  have hhead := head_ln (h.below (below_drewN w k)) hf hd (by omega)
  obtain ⟨c0, c1, c2, c3, c4, c5, c6, c7⟩ := h.cell
  obtain ⟨KA, kc, rfl, _⟩ := id h.kept
  have hne1 : ¬ (l.sure : Int) = (l.kept.length : Int) := by omega
  have hne2 : ((l.sure : Int) == (l.kept.length : Int)) = false := by simpa using hne1
  have H0 := hide h
  have HD := hide hd
  have HF := hide hf
  clear hne h hd hf hhead
  unfold ptr
  go_enter Try.func64, Try.ntmps64
  go_upto_region 1 with fail
  go_quiet (fail)
  have hb0 := below_drewN w nq
  have H1 := hide (H0.out.below hb0)
  have O1 := hide (Out.of_below (X := X) hb0)
  obtain ⟨c0, c1, c2, c3, c4, c5, c6, c7⟩ := H1.out.cell
  clear hb0
  generalize w.drewN nq = w1 at *
  cases ha : l.astray
  · have ef : flushD l = hardD l := by unfold flushD; rw [ha]; rfl
    rw [ha] at c7
    have EF := hide ef
    have hhard := harden_ln H1.out HF.out HD.out (by omega)
    unfold ptr at hhard
    clear ef
    go_wp2_with (go_at_call 58; refine hhard.mono ?_; rintro e w2 ⟨v, rfl, rfl, hw⟩)
    go_ret
    rw [EF.out]
    obtain ⟨d', kv', h1, h2, h3⟩ := hw
    exact ⟨_, rfl, rfl, d', kv', h1.more (by omega), h2, O1.out.trans h3⟩
  · have ef : flushD l = [headD l] ++ hardD l := by unfold flushD; rw [ha]; rfl
    rw [ha] at c7
    have EF := hide ef
    have hhead := head_ln H1.out HF.out HD.out (by omega)
    unfold ptr at hhead
    clear ef
    rcases hr1 : gr.run [headD l] with ⟨g1, b1⟩
    rw [hr1] at hhead
    cases b1
    · have HE := hide (run_no hr1 (hardD l))
      clear hr1
      go_wp2_with (go_at_call 59; refine hhead.mono ?_; rintro e w2 ⟨v, rfl, rfl, hw⟩; try simp only [cd, Bool.false_eq_true, if_false])
      go_ret
      rw [EF.out, HE.out]
      obtain ⟨d', kv', h1, h2, h3⟩ := hw
      exact ⟨_, rfl, rfl, d', kv', h1.more (by omega), h2, O1.out.trans h3⟩
    · have HE := hide (run_yes hr1 (hardD l))
      clear hr1
      go_wp2_with (first
        | (go_at_call 59; refine hhead.mono ?_; rintro e w2 ⟨v, rfl, rfl, d2, kv2, hnx, hln, hout⟩; (try simp only [cd, if_true]); have N2 := hide hnx; have O2 := hide hout; have hhard := harden_ln hln HF.out hnx.is (by omega); unfold ptr at hhard; clear hln hout hnx)
        | (go_at_call 58; refine hhard.mono ?_; rintro e w3 ⟨v, rfl, rfl, hw⟩))
      go_ret
      rw [EF.out, HE.out]
      obtain ⟨d', kv', h1, h2, h3⟩ := hw
      have er := hard_r l (g1.run (hardD l)).2
      rw [er] at h1
      exact ⟨_, rfl, rfl, d', kv', by rw [er]; exact (N2.out.trans h1).more (by omega), h2, (O1.out.trans O2.out).trans h3⟩
theorem flush_none {w : World} {X : Nat → Prop} {dg : Nat} {d : Ds} {g : Nat} {l : Ln} {kv : Value} {gr : Rg} {k : Nat} (h : LnAt w X dg d g l kv) (hne : l.sure = l.kept.length) :
    Calls Try.prog 64 #[ptr g] w fun e w' => e = .returned (.int .i64 0) ∧ Below w.heap.size w w' := by
  obtain ⟨c0, c1, c2, c3, c4, c5, c6, c7⟩ := h.cell
  obtain ⟨KA, kc, rfl, _⟩ := id h.kept
  rw [hne] at c6
  clear hne h
  unfold ptr
  go_enter Try.func64, Try.ntmps64
  go_upto_region 1 with fail
  go_quiet (fail)
  go_wp2
  go_ret
  exact ⟨rfl, below_drewN _ _⟩
end
section
/- What a reader takes of a sector (plain data). -/
open Go.RowKit
set_option maxRecDepth 20000
set_option linter.unusedSimpArgs false
set_option linter.unusedVariables false

def sN (b : Sec) : Nat := (b.getD 4 0).toNat
theorem num_sec (b : Sec) (h : b.length = 64) : (⟨b, false⟩ : St).num 4 = gn b ∧ (⟨b, false⟩ : St).numSt 4 = ⟨b.drop 4, false⟩ := by
  have hc : (⟨b, false⟩ : St).can 4 = true := by simp [St.can]; omega
  exact ⟨by unfold St.num St.got; rw [if_pos (by omega), if_pos hc]; rfl, by unfold St.numSt St.take; rw [if_pos (by omega), if_pos hc]; rfl⟩
theorem num_sec1 (b : Sec) (h : b.length = 64) : (⟨b.drop 4, false⟩ : St).num 1 = sN b ∧ (⟨b.drop 4, false⟩ : St).numSt 1 = ⟨b.drop 5, false⟩ := by
  have hc : (⟨b.drop 4, false⟩ : St).can 1 = true := by simp [St.can]; omega
  refine ⟨?_, by unfold St.numSt St.take; rw [if_pos (by omega), if_pos hc]; simp⟩
  unfold St.num St.got
  rw [if_pos (by omega), if_pos hc]
  unfold sN
  show val ((b.drop 4).take 1) = _
  have e : (b.drop 4).take 1 = [b[4]'(by omega)] := by rw [List.drop_eq_getElem_cons (by omega)]; rfl
  rw [e, List.getD_eq_getElem?_getD, List.getElem?_eq_getElem (show 4 < b.length by omega), Option.getD_some]
  simp [val]
theorem take_sec3 (b : Sec) (h : b.length = 64) : (⟨b.drop 5, false⟩ : St).take 3 = ⟨b.drop 8, false⟩ := by
  have hc : (⟨b.drop 5, false⟩ : St).can 3 = true := by simp [St.can]; omega
  unfold St.take
  rw [if_pos hc]
  simp
theorem got_sec (b : Sec) (h : b.length = 64) : (⟨b.drop 8, false⟩ : St).got (sN b : Int) = if sN b ≤ 56 then (b.drop 8).take (sN b) else [] := by
  unfold St.got St.can
  simp only [Bool.not_false, Bool.true_and, List.length_drop, h]
  by_cases h1 : sN b ≤ 56
  · rw [if_pos h1, if_pos (by simp; omega), Int.toNat_natCast]
  · rw [if_neg h1, if_neg (by simp; omega)]
theorem ld_yes (gen : Nat) (b : Sec) (h : gn b = gen) : ld gen b = if sN b ≤ 56 then (b.drop 8).take (sN b) else [] := by
  unfold ld
  rw [if_pos h]
  rfl
theorem sN_lt (b : Sec) : sN b < 256 := UInt8.toNat_lt _
theorem gn_lt (b : Sec) : gn b < 4294967296 := by
  unfold gn
  have h1 := val_lt (b.take 4)
  have h2 : 256 ^ (b.take 4).length ≤ 256 ^ 4 := Nat.pow_le_pow_right (by omega) (by rw [List.length_take]; omega)
  omega
/-- The head's sector. -/
theorem pad_head (l : Ln) : pad (headRaw l) = be 4 l.gen ++ ([UInt8.ofNat l.bank] ++ List.replicate 59 0) := by
  unfold pad
  rw [show (headRaw l).length = 5 by simp [headRaw, be_length]]
  simp [headRaw]
theorem gn_head (l : Ln) (h : l.gen ≤ 1000000) : gn (pad (headRaw l)) = l.gen := by
  unfold gn
  rw [pad_head, take_be, val_be]
  omega
theorem sN_head (l : Ln) (h : l.bank ≤ 1) : sN (pad (headRaw l)) = l.bank := by
  unfold sN
  rw [pad_head, List.getD_eq_getElem?_getD, List.getElem?_append_right (by rw [be_length]; omega), be_length]
  show (UInt8.ofNat l.bank).toNat = _
  rw [UInt8.toNat_ofNat']
  omega
end
section
/- Contracts: a lane's load, clean, stream, find. -/
open Go.RowKit
set_option maxRecDepth 20000
set_option linter.unusedSimpArgs false
set_option linter.unusedVariables false

set_option maxHeartbeats 8000000 in
theorem load_ln {w : World} {X : Nat → Prop} {dg : Nat} {d : Ds} {g : Nat} {l : Ln} {kv : Value} {gr : Rg} {k : Nat} (h : LnAt w X dg d g l kv) (b : Sec) (hb64 : b.length = 64) {A : Option Addr} {c : Nat} (hv : Rd w (.slice A 64 c) (u8s b)) :
    Calls Try.prog 70 #[ptr g, .slice A 64 c] w fun e w' => ∃ v, e = .returned v ∧ (Say.rd (ld l.gen b).length (ld l.gen b)).p w' v ∧ Below w.heap.size w w' := by
  have H0 := hide h
  have HN := hide (num_sec b hb64)
  have HN1 := hide (num_sec1 b hb64)
  have HT3 := hide (take_sec3 b hb64)
  have hnew := new_any (.slice A 64 c) b w (by rw [hb64]; omega) hv
  obtain ⟨bb, hbb⟩ : ∃ bb : Bool, bb = ((gn b : Int) != (l.gen : Int)) := ⟨_, rfl⟩
  have HBB := hide hbb
  clear h hv hbb
  unfold ptr
  go_enter Try.func70, Try.ntmps70
  go_upto_region 2 with (go_at_call 67; refine hnew.mono ?_; rintro e w1 ⟨g2, rfl, hr, hb⟩)
  have HR := hide hr
  have HB := hide hb
  clear hnew hr hb
  refine region_phases (valV [some (ptr g2), some (.int .u64 (gn b : Int)), some (.pointer (some ⟨g, 0, none⟩)), some (.pointer (some ⟨g, 0, none⟩)), some (.pointer (some ⟨g, 3, none⟩)), some (.int .u64 (l.gen : Int)), some (.bool bb)]) (phased [⟨1, 1, fun _ w2 => Rdr w2 w.heap.size g2 ⟨b.drop 4, false⟩ ∧ Below w.heap.size w w2⟩] (fun w2 => Rdr w2 w.heap.size g2 ⟨b, false⟩ ∧ Below w.heap.size w w2)) (by kernel_rfl) (by kernel_rfl) (by kernel_rfl) (by kernel_rfl) (phased_ext (by kernel_rfl)) (⟨HR.out.drew, HB.out.drew⟩) ?_ ?_
  · intro i o ho L a w2 hph hsz hLi hnot hyes old dep
    match i, ho with
    | 0, ho =>
      obtain rfl := Option.some.inj ho
      rw [if_pos (wanted_none rfl)]
      have o5 := old 5 (by kernel_rfl)
      refine wp_yields (v := ptr g2) (w' := w2) ?_ (fun u hu => Option.some.inj (Option.some.inj hu)) (phased_quiet hLi (by rfl) hph)
      clear dep old ho hsz hph hnot hyes hLi
      go_simp
    | 1, ho =>
      obtain rfl := Option.some.inj ho
      rw [if_pos (wanted_none rfl)]
      have d0 : a.tmps.getD 9 undef = ptr g2 := dep 0 _ _ (by kernel_rfl) rfl rfl _ rfl
      have e0 : a.tmps[9]?.getD undef = ptr g2 := (Array.getD_eq_getD_getElem? ..).symm.trans d0
      have hph2 := hph
      unfold phased phased at hph2
      rw [if_neg (by rw [hLi]; decide)] at hph2
      have hnum := num_any 4 hph2.1 (by rw [hb64]; omega)
      rw [HN.out.1, HN.out.2] at hnum
      refine phase_enters 68 #[ptr g2, .int .i64 4] ?_ ?_
      · clear dep old ho hsz hph hnot hyes hLi hnum hph2
        go_simp
      refine hnum.mono ?_
      rintro e w' ⟨rfl, hr, hg⟩
      refine ⟨_, rfl, (fun u hu => Option.some.inj (Option.some.inj hu)), ?_⟩
      unfold phased
      rw [if_pos (by simp [also])]
      exact ⟨by simp [also], hr, hph2.2.grown hg hph2.2.size (fun k hk => by injection hk with hk; have := hr.lo_le; omega)⟩
    | 2, ho =>
      obtain rfl := Option.some.inj ho
      rw [if_pos (wanted_none rfl)]
      have o0 := old 0 (by kernel_rfl)
      refine wp_yields (v := .pointer (some ⟨g, 0, none⟩)) (w' := w2) ?_ (fun u hu => Option.some.inj (Option.some.inj hu)) (phased_quiet hLi (by rfl) hph)
      clear dep old ho hsz hph hnot hyes hLi
      go_simp
    | 3, ho =>
      obtain rfl := Option.some.inj ho
      rw [if_pos (wanted_none rfl)]
      have d2 : a.tmps.getD 11 undef = .pointer (some ⟨g, 0, none⟩) := dep 2 _ _ (by kernel_rfl) rfl rfl _ rfl
      have e2 : a.tmps[11]?.getD undef = .pointer (some ⟨g, 0, none⟩) := (Array.getD_eq_getD_getElem? ..).symm.trans d2
      refine wp_yields (v := .pointer (some ⟨g, 0, none⟩)) (w' := w2) ?_ (fun u hu => Option.some.inj (Option.some.inj hu)) (phased_quiet hLi (by rfl) hph)
      clear dep old ho hsz hph hnot hyes hLi
      go_simp
    | 4, ho =>
      obtain rfl := Option.some.inj ho
      rw [if_pos (wanted_none rfl)]
      have d3 : a.tmps.getD 12 undef = .pointer (some ⟨g, 0, none⟩) := dep 3 _ _ (by kernel_rfl) rfl rfl _ rfl
      have e3 : a.tmps[12]?.getD undef = .pointer (some ⟨g, 0, none⟩) := (Array.getD_eq_getD_getElem? ..).symm.trans d3
      refine wp_yields (v := .pointer (some ⟨g, 3, none⟩)) (w' := w2) ?_ (fun u hu => Option.some.inj (Option.some.inj hu)) (phased_quiet hLi (by rfl) hph)
      clear dep old ho hsz hph hnot hyes hLi
      go_simp
    | 5, ho =>
      obtain rfl := Option.some.inj ho
      rw [if_pos (wanted_none rfl)]
      have d4 : a.tmps.getD 13 undef = .pointer (some ⟨g, 3, none⟩) := dep 4 _ _ (by kernel_rfl) rfl rfl _ rfl
      have e4 : a.tmps[13]?.getD undef = .pointer (some ⟨g, 3, none⟩) := (Array.getD_eq_getD_getElem? ..).symm.trans d4
      have hR : (fun w2 => Below w.heap.size w w2) w2 := phased_all (R := fun w2 => Below w.heap.size w w2) (fun p hp => by
        simp only [List.mem_cons, List.not_mem_nil, or_false] at hp
        rcases hp with rfl <;> exact fun _ _ h => h.2) (fun _ h => h.2) hph
      obtain ⟨hc0, hc1, hc2, hc3, hc4, hc5, hc6, hc7⟩ := (H0.out.below hR).cell
      refine wp_yields (v := .int .u64 (l.gen : Int)) (w' := w2) ?_ (fun u hu => Option.some.inj (Option.some.inj hu)) (phased_quiet hLi (by rfl) hph)
      clear dep old ho hsz hph hnot hyes hLi
      go_simp
    | 6, ho =>
      obtain rfl := Option.some.inj ho
      rw [if_pos (wanted_none rfl)]
      have d1 : a.tmps.getD 10 undef = .int .u64 (gn b : Int) := dep 1 _ _ (by kernel_rfl) rfl rfl _ rfl
      have e1 : a.tmps[10]?.getD undef = .int .u64 (gn b : Int) := (Array.getD_eq_getD_getElem? ..).symm.trans d1
      have d5 : a.tmps.getD 14 undef = .int .u64 (l.gen : Int) := dep 5 _ _ (by kernel_rfl) rfl rfl _ rfl
      have e5 : a.tmps[14]?.getD undef = .int .u64 (l.gen : Int) := (Array.getD_eq_getD_getElem? ..).symm.trans d5
      refine wp_yields (v := .bool bb) (w' := w2) ?_ (fun u hu => Option.some.inj (Option.some.inj hu)) (phased_quiet hLi (by rfl) hph)
      have hbb2 := HBB.out
      clear dep old ho hsz hph hnot hyes hLi
      go_simp
    | i + 7, ho => exact absurd ho (by simp)
  · intro a w2 hph hsz hdf fin keep
    obtain ⟨tm, df⟩ := a
    have hx := frame_of [9, 10, 11, 12, 13, 14, 15] (by kernel_rfl) hsz keep
    dsimp only at hdf hx
    simp only [List.foldl_cons, List.foldl_nil] at hx
    subst hdf
    clear hsz keep
    have kn : tm.getD 9 undef = ptr g2 := fin 0 _ _ rfl rfl _ rfl
    rw [kn] at hx
    clear kn
    have kn : tm.getD 10 undef = .int .u64 (gn b : Int) := fin 1 _ _ rfl rfl _ rfl
    rw [kn] at hx
    clear kn
    have kn : tm.getD 11 undef = .pointer (some ⟨g, 0, none⟩) := fin 2 _ _ rfl rfl _ rfl
    rw [kn] at hx
    clear kn
    have kn : tm.getD 12 undef = .pointer (some ⟨g, 0, none⟩) := fin 3 _ _ rfl rfl _ rfl
    rw [kn] at hx
    clear kn
    have kn : tm.getD 13 undef = .pointer (some ⟨g, 3, none⟩) := fin 4 _ _ rfl rfl _ rfl
    rw [kn] at hx
    clear kn
    have kn : tm.getD 14 undef = .int .u64 (l.gen : Int) := fin 5 _ _ rfl rfl _ rfl
    rw [kn] at hx
    clear kn
    have kn : tm.getD 15 undef = .bool bb := fin 6 _ _ rfl rfl _ rfl
    rw [kn] at hx
    clear kn
    clear fin
    simp only [List.setIfInBounds_toArray, List.set_cons_succ, List.set_cons_zero] at hx
    subst hx
    unfold phased at hph
    rw [if_pos rfl] at hph
    obtain ⟨_, hph⟩ := hph
    obtain ⟨hr, hb⟩ := hph
    have HR2 := hide hr
    have HB2 := hide hb
    clear hr hb HR HB
    cases bb
    · have hgn : gn b = l.gen := by have := HBB.out.symm; rw [bne_eq_false_iff_eq] at this; omega
      have hlt := sN_lt b
      have hn1 := num_any 1 HR2.out (by simp; omega)
      rw [HN1.out.1, HN1.out.2] at hn1
      go_wp2_with (first
        | (go_at_call 68; ((with_reducible refine hn1.mono ?_); rintro e w3 ⟨rfl, hr3, hg3⟩; have HR3 := hide hr3; have HB3 := hide (HB2.out.grown hg3 HB2.out.size (fun k hk => by injection hk with hk; have := hr3.lo_le; omega)); have ht3 := take_told 3 hr3 (by simp; omega); rw [HT3.out] at ht3; clear hr3 hg3 hn1))
        | (go_at_call 89; ((with_reducible refine ht3.mono ?_); rintro e w4 ⟨A4, c4, rfl, _, hr4, hg4, _⟩; have HR4 := hide hr4; have HB4 := hide (HB3.out.grown hg4 HB3.out.size (fun k hk => by injection hk with hk; have := hr4.lo_le; omega)); have ht4 := take_told (sN b : Int) hr4 (by simp; omega); clear hr4 hg4 ht3))
        | (go_at_call 89; ((with_reducible refine ht4.mono ?_); rintro e w5 ⟨A5, c5, rfl, hrd5, hr5, hg5, _⟩; have HB5 := hide (HB4.out.grown hg5 HB4.out.size (fun k hk => by injection hk with hk; have := hr5.lo_le; omega)); have HD5 := hide hrd5; clear hr5 hg5 ht4)))
      go_ret
      refine ⟨_, rfl, ⟨A5, c5, ?_, ?_⟩, HB5.out⟩
      · rw [ld_yes _ _ hgn, ← got_sec b hb64]
        rfl
      · rw [ld_yes _ _ hgn, ← got_sec b hb64]
        exact HD5.out
    · have hgn : gn b ≠ l.gen := by have := HBB.out.symm; rw [bne_iff_ne] at this; omega
      go_wp2
      go_ret
      rw [ld_other _ _ hgn]
      exact ⟨_, rfl, ⟨_, _, rfl, Rd.nil_ _ _ _⟩, HB2.out⟩
end
section
/- Contracts: a lane's clean. -/
open Go.RowKit
set_option maxRecDepth 20000
set_option linter.unusedSimpArgs false
set_option linter.unusedVariables false

theorem Rdr.lower {w : World} {lo lo' g : Nat} {s : St} (h : Rdr w lo g s) (hl : lo' ≤ lo) : Rdr w lo' g s := by
  obtain ⟨h1, A, c, h2, h3, h4⟩ := h
  exact ⟨Nat.le_trans hl h1, A, c, h2, h3, fun k hk => Nat.le_trans hl (h4 k hk)⟩
def cleanR (l : Ln) (S : List Sec) (n j : Nat) : List Do := ((List.range' n (j - n)).filter fun i => decide (gn (S.getD (l.sec i) zsec) = l.gen)).map fun i => .w (l.sec i) zsec
theorem cleanR_all (l : Ln) (S : List Sec) (n : Nat) : cleanR l S n 256 = cleanD l S n := rfl
theorem cleanR_start (l : Ln) (S : List Sec) (n : Nat) : cleanR l S n n = [] := by simp [cleanR]
theorem cleanR_snoc (l : Ln) (S : List Sec) (n j : Nat) (h : n ≤ j) : cleanR l S n (j + 1) = cleanR l S n j ++ if gn (S.getD (l.sec j) zsec) = l.gen then [.w (l.sec j) zsec] else [] := by
  unfold cleanR
  rw [show j + 1 - n = (j - n) + 1 by omega, List.range'_concat, List.filter_append, List.map_append]
  congr 1
  rw [show n + 1 * (j - n) = j by omega]
  by_cases hg : gn (S.getD (l.sec j) zsec) = l.gen
  · rw [if_pos hg, List.filter_cons_of_pos (p := fun i => decide (gn (S.getD (l.sec i) zsec) = l.gen)) (a := j) (l := []) (decide_eq_true hg)]; rfl
  · rw [if_neg hg, List.filter_cons_of_neg (p := fun i => decide (gn (S.getD (l.sec i) zsec) = l.gen)) (a := j) (l := []) (by show ¬ decide _ = true; rw [decide_eq_true_eq]; exact hg)]; rfl
theorem cleanR_prefix (l : Ln) (S : List Sec) (n j : Nat) (h1 : n ≤ j) (h2 : j ≤ 256) : ∃ t, cleanD l S n = cleanR l S n j ++ t := by
  rw [← cleanR_all]
  have : ∀ i, ∃ t, cleanR l S n (j + i) = cleanR l S n j ++ t := by
    intro i
    induction i with
    | zero => exact ⟨[], by simp⟩
    | succ i ih =>
      obtain ⟨t, ht⟩ := ih
      exact ⟨t ++ _, by rw [← Nat.add_assoc, cleanR_snoc l S n (j + i) (by omega), ht, List.append_assoc]⟩
  have h := this (256 - j)
  rwa [show j + (256 - j) = 256 by omega] at h
/-- Sectors that aren't written are as they were. -/
def Do.off (t : Nat) : Do → Prop
  | .w s _ => s ≠ t
  | .bar => True
theorem go1_secs {g : Rg} {o : Do} {t : Nat} (h : o.off t) : (g.go1 o).secs[t]? = g.secs[t]? := by
  cases o with
  | w s b =>
    show (g.write s b).secs[t]? = _
    rw [Rg.secs_write, List.getElem?_set_ne h]
  | bar => rfl
theorem run_secs {t : Nat} : ∀ (os : List Do) (g : Rg), (∀ o ∈ os, o.off t) → (g.run os).1.secs[t]? = g.secs[t]?
  | [], _, _ => rfl
  | o :: os, g, h => by
    rw [run_cons]
    split
    · rfl
    · rw [run_secs os _ (fun x hx => h x (List.mem_cons_of_mem _ hx)), go1_secs (h o (List.mem_cons_self ..))]
theorem cleanR_off (l : Ln) (S : List Sec) (n j : Nat) : ∀ o ∈ cleanR l S n j, o.off (l.sec j) := by
  intro o ho
  unfold cleanR at ho
  rw [List.mem_map] at ho
  obtain ⟨i, hi, rfl⟩ := ho
  have := (List.mem_range'_1.1 (List.mem_filter.1 hi).1)
  show l.sec i ≠ l.sec j
  unfold Ln.sec
  omega
/-- The sectors of its bank. -/
def bankOf (S : List Sec) (bank : Nat) : List Sec := (S.drop (2 + bank * 256)).take 256
theorem bankOf_get (S : List Sec) (l : Ln) (j : Nat) (hj : j < 256) : (bankOf S l.bank)[j]? = S[l.sec j]? := by
  unfold bankOf Ln.sec
  rw [List.getElem?_take, if_pos hj, List.getElem?_drop]
theorem bankOf_length (S : List Sec) (bank : Nat) (hb : bank ≤ 1) (hs : 514 ≤ S.length) : (bankOf S bank).length = 256 := by
  unfold bankOf
  rw [List.length_take, List.length_drop]
  omega
theorem strm_step (gen : Nat) (B : List Sec) (j : Nat) (b : Sec) (h : B[j]? = some b) : strm gen (B.drop j) = if (ld gen b).length < 56 then ld gen b else ld gen b ++ strm gen (B.drop (j + 1)) := by
  obtain ⟨hj, rfl⟩ := List.getElem?_eq_some_iff.1 h
  rw [List.drop_eq_getElem_cons hj]
  rfl

set_option maxHeartbeats 8000000 in
theorem clean_ln {w : World} {X : Nat → Prop} {dg : Nat} {d : Ds} {g : Nat} {l : Ln} {kv : Value} {gr : Rg} {k : Nat} (h : LnAt w X dg d g l kv) (hf : l.Fit) (hd : DIs d l.r gr k) (hk : k ≤ 900000) :
    Calls Try.prog 57 #[ptr g] w fun e w' => ∃ v, e = .returned v ∧ v = .int .i64 (cd (gr.run (cleanD l gr.secs (l.first + l.nsec))).2) ∧ Went w w' X dg d g l (gr.run (cleanD l gr.secs (l.first + l.nsec))).1 (k + 300) := by
  have H0 := hide h
  have HF := hide hf
  have HD := hide hd
  have hlen := hf.len
  have hns : l.first + l.nsec ≤ 256 := by unfold Ln.nsec; unfold Ln.len at hlen; omega
  obtain ⟨KA, kc, rfl, _⟩ := id h.kept
  clear h hf hd
  unfold ptr
  go_enter Try.func57, Try.ntmps57
  go_upto_region 1 with fail
  refine region_grows [Say.is (.pointer (some ⟨g, 0, none⟩)), Say.is (.pointer (some ⟨g, 0, none⟩)), Say.is (.pointer (some ⟨g, 4, none⟩)), Say.is (.int .i64 (l.first : Int)), Say.is (.pointer (some ⟨g, 0, none⟩)), Say.is (.int .i64 (l.nsec : Int)), Say.is (.int .i64 ((l.first + l.nsec : Nat) : Int)), Say.is (.int .i64 ((l.first + l.nsec : Nat) : Int))] (by kernel_rfl) (by kernel_rfl) (by kernel_rfl) (by kernel_rfl) ?_ ?_
  · intro i o ho a w2 hb hsz old dep
    match i, ho with
    | 0, ho =>
      obtain rfl := Option.some.inj ho
      have o0 : a.tmps.getD 0 undef = _ := old 0 (by kernel_rfl)
      rw [if_pos (wanted_none rfl)]
      refine grow_same (v := .pointer (some ⟨g, 0, none⟩)) ?_ rfl
      clear old dep ho hsz hb
      go_simp
    | 1, ho =>
      obtain rfl := Option.some.inj ho
      have d0 : a.tmps.getD 7 undef = .pointer (some ⟨g, 0, none⟩) := dep 0 _ _ (by kernel_rfl) rfl rfl
      have e0 : a.tmps[7]?.getD undef = _ := (Array.getD_eq_getD_getElem? ..).symm.trans d0
      rw [if_pos (wanted_none rfl)]
      refine grow_same (v := .pointer (some ⟨g, 0, none⟩)) ?_ rfl
      clear old dep ho hsz hb
      go_simp
    | 2, ho =>
      obtain rfl := Option.some.inj ho
      have d1 : a.tmps.getD 8 undef = .pointer (some ⟨g, 0, none⟩) := dep 1 _ _ (by kernel_rfl) rfl rfl
      have e1 : a.tmps[8]?.getD undef = _ := (Array.getD_eq_getD_getElem? ..).symm.trans d1
      rw [if_pos (wanted_none rfl)]
      refine grow_same (v := .pointer (some ⟨g, 4, none⟩)) ?_ rfl
      clear old dep ho hsz hb
      go_simp
    | 3, ho =>
      obtain rfl := Option.some.inj ho
      have d2 : a.tmps.getD 9 undef = .pointer (some ⟨g, 4, none⟩) := dep 2 _ _ (by kernel_rfl) rfl rfl
      have e2 : a.tmps[9]?.getD undef = _ := (Array.getD_eq_getD_getElem? ..).symm.trans d2
      rw [if_pos (wanted_none rfl)]
      obtain ⟨hc0, hc1, hc2, hc3, hc4, hc5, hc6, hc7⟩ := (H0.out.below hb).cell
      refine grow_same (v := .int .i64 (l.first : Int)) ?_ rfl
      clear old dep ho hsz hb
      go_simp
    | 4, ho =>
      obtain rfl := Option.some.inj ho
      have o0 : a.tmps.getD 0 undef = _ := old 0 (by kernel_rfl)
      rw [if_pos (wanted_none rfl)]
      refine grow_same (v := .pointer (some ⟨g, 0, none⟩)) ?_ rfl
      clear old dep ho hsz hb
      go_simp
    | 5, ho =>
      obtain rfl := Option.some.inj ho
      have d4 : a.tmps.getD 11 undef = .pointer (some ⟨g, 0, none⟩) := dep 4 _ _ (by kernel_rfl) rfl rfl
      have e4 : a.tmps[11]?.getD undef = _ := (Array.getD_eq_getD_getElem? ..).symm.trans d4
      rw [if_pos (wanted_none rfl)]
      refine grow_enters (f := 80) (args := #[.pointer (some ⟨g, 0, none⟩)]) ?_ ((sectors_ln (H0.out.below hb) HF.out.len).mono (by rintro e w' ⟨rfl, rfl⟩; exact ⟨_, rfl, rfl, Below.refl _ _⟩))
      clear old dep ho hsz hb
      go_simp
    | 6, ho =>
      obtain rfl := Option.some.inj ho
      have d3 : a.tmps.getD 10 undef = .int .i64 (l.first : Int) := dep 3 _ _ (by kernel_rfl) rfl rfl
      have e3 : a.tmps[10]?.getD undef = _ := (Array.getD_eq_getD_getElem? ..).symm.trans d3
      have d5 : a.tmps.getD 12 undef = .int .i64 (l.nsec : Int) := dep 5 _ _ (by kernel_rfl) rfl rfl
      have e5 : a.tmps[12]?.getD undef = _ := (Array.getD_eq_getD_getElem? ..).symm.trans d5
      rw [if_pos (wanted_none rfl)]
      refine grow_same (v := .int .i64 ((l.first + l.nsec : Nat) : Int)) ?_ rfl
      clear old dep ho hsz hb
      go_simp
      first | omega | (rw [IntKind.wrap_i64]; omega)
    | 7, ho =>
      obtain rfl := Option.some.inj ho
      have d6 : a.tmps.getD 13 undef = .int .i64 ((l.first + l.nsec : Nat) : Int) := dep 6 _ _ (by kernel_rfl) rfl rfl
      have e6 : a.tmps[13]?.getD undef = _ := (Array.getD_eq_getD_getElem? ..).symm.trans d6
      rw [if_pos (wanted_none rfl)]
      refine grow_same (v := .int .i64 ((l.first + l.nsec : Nat) : Int)) ?_ rfl
      clear old dep ho hsz hb
      go_simp
    | i + 8, ho => exact absurd ho (by simp)
  · intro a w2 hb hsz hdf fin keep
    obtain ⟨tm, df⟩ := a
    have hx := frame_of [7, 8, 9, 10, 11, 12, 13, 3] (by kernel_rfl) hsz keep
    dsimp only at hdf hx
    simp only [List.foldl_cons, List.foldl_nil] at hx
    subst hdf
    clear hsz keep
    have kn : tm.getD 7 undef = .pointer (some ⟨g, 0, none⟩) := fin 0 _ _ rfl rfl
    rw [kn] at hx
    clear kn
    have kn : tm.getD 8 undef = .pointer (some ⟨g, 0, none⟩) := fin 1 _ _ rfl rfl
    rw [kn] at hx
    clear kn
    have kn : tm.getD 9 undef = .pointer (some ⟨g, 4, none⟩) := fin 2 _ _ rfl rfl
    rw [kn] at hx
    clear kn
    have kn : tm.getD 10 undef = .int .i64 (l.first : Int) := fin 3 _ _ rfl rfl
    rw [kn] at hx
    clear kn
    have kn : tm.getD 11 undef = .pointer (some ⟨g, 0, none⟩) := fin 4 _ _ rfl rfl
    rw [kn] at hx
    clear kn
    have kn : tm.getD 12 undef = .int .i64 (l.nsec : Int) := fin 5 _ _ rfl rfl
    rw [kn] at hx
    clear kn
    have kn : tm.getD 13 undef = .int .i64 ((l.first + l.nsec : Nat) : Int) := fin 6 _ _ rfl rfl
    rw [kn] at hx
    clear kn
    have kn : tm.getD 3 undef = .int .i64 ((l.first + l.nsec : Nat) : Int) := fin 7 _ _ rfl rfl
    rw [kn] at hx
    clear kn
    clear fin
    simp only [List.setIfInBounds_toArray, List.set_cons_succ, List.set_cons_zero] at hx
    subst hx
    have H1 := hide (H0.out.below hb)
    have O1 := hide (Out.of_below (X := X) hb)
    clear hb
    go_wp2
    go_loopw [3] (fun i wr => ∃ j : Nat, l.first + l.nsec ≤ j ∧ j ≤ 256 ∧ i = .int .i64 j ∧ (gr.run (cleanR l gr.secs (l.first + l.nsec) j)).2 = true ∧ Went w wr X dg d g l (gr.run (cleanR l gr.secs (l.first + l.nsec) j)).1 (k + (j - (l.first + l.nsec)))) (fun i _ => 256 - (intOf i).toNat)
    case atStart => exact ⟨_, Nat.le_refl _, hns, rfl, by rw [cleanR_start]; rfl, d, _, by rw [cleanR_start]; exact HD.out.next.more (by omega), H1.out, O1.out⟩
    case round =>
      obtain ⟨j, hj0, hj, rfl, hrun, dj, kvj, hnx, hln, hout⟩ := hrel
      clear H0 H1 O1
      by_cases hlt : j < 256
      · have H1 := hide hln
        have O1 := hide hout
        have N1 := hide hnx
        have D1 := hide hnx.is
        have RUN := hide hrun
        have SN := hide (cleanR_snoc l gr.secs (l.first + l.nsec) j hj0)
        have PF := hide (cleanR_prefix l gr.secs (l.first + l.nsec) (j + 1) (by omega) (by omega))
        have hsame := run_secs (cleanR l gr.secs (l.first + l.nsec) j) gr (cleanR_off l gr.secs (l.first + l.nsec) j)
        obtain ⟨b, hb2, hbs, hb64⟩ := hnx.is.rd (sec_lt HF.out hnx.is hlt)
        rw [hsame] at hbs
        have hgd : gr.secs.getD (l.sec j) zsec = b := by rw [List.getD_eq_getElem?_getD, hbs]; rfl
        rw [hgd] at SN
        have HL64 := hide hb64
        have HN := hide (num_sec b hb64)
        have hread := read_ln hln HF.out j (by omega) hb2 hb64
        have hlt' : (j : Int) < 256 := by omega
        have hk1 : k + (j - (l.first + l.nsec)) ≤ 1000000 := by omega
        obtain ⟨bb, hbb⟩ : ∃ bb : Bool, bb = ((gn b : Int) != (l.gen : Int)) := ⟨_, rfl⟩
        have HBB := hide hbb
        have GJE : Hid (gr.run (cleanR l gr.secs (l.first + l.nsec) j) = ((gr.run (cleanR l gr.secs (l.first + l.nsec) j)).1, true)) := hide (by rw [← hrun])
        generalize hGJ : (gr.run (cleanR l gr.secs (l.first + l.nsec) j)).1 = GJ at *
        unfold ptr at hread
        clear hln hout hnx hb2 hbs hsame hbb hgd hrun
        go_upto_region 7 with (go_at_call 69; ((with_reducible refine hread.mono ?_); rintro e w1 ⟨A4, c4, rfl, hr4, hb4⟩))
        have HR4 := hide hr4
        have H2 := hide (H1.out.below hb4)
        have O2 := hide (O1.out.trans (Out.of_below hb4))
        clear hread hr4 hb4 H1
        have H1 := H2
        refine region_phases (valV [some (.slice A4 64 c4), none, some (.int .u64 (gn b : Int)), some (.pointer (some ⟨g, 0, none⟩)), some (.pointer (some ⟨g, 0, none⟩)), some (.pointer (some ⟨g, 3, none⟩)), some (.int .u64 (l.gen : Int)), some (.bool bb)]) (phased [⟨2, 2, fun _ w2 => Below w1.heap.size w1 w2⟩, ⟨1, 1, fun v w2 => ∃ g2, v = ptr g2 ∧ Rdr w2 w1.heap.size g2 ⟨b, false⟩ ∧ Below w1.heap.size w1 w2⟩] (fun w2 => Below w1.heap.size w1 w2)) (by kernel_rfl) (by kernel_rfl) (by kernel_rfl) (by kernel_rfl) (phased_ext (by kernel_rfl)) ((Below.refl _ _).drew) ?_ ?_
        · intro i o ho L a w2 hph hsz hLi hnot hyes old dep
          match i, ho with
          | 0, ho =>
            obtain rfl := Option.some.inj ho
            rw [if_pos (wanted_none rfl)]
            have o4 := old 4 (by kernel_rfl)
            refine wp_yields (v := .slice A4 64 c4) (w' := w2) ?_ (fun u hu => Option.some.inj (Option.some.inj hu)) (phased_quiet hLi (by rfl) hph)
            clear dep old ho hsz hph hnot hyes hLi
            go_simp
          | 1, ho =>
            obtain rfl := Option.some.inj ho
            rw [if_pos (wanted_none rfl)]
            have d0 : a.tmps.getD 27 undef = .slice A4 64 c4 := dep 0 _ _ (by kernel_rfl) rfl rfl _ rfl
            have e0 : a.tmps[27]?.getD undef = .slice A4 64 c4 := (Array.getD_eq_getD_getElem? ..).symm.trans d0
            have hL2 : L 2 = false := hnot 2 (by kernel_rfl)
            have hph2 := hph
            unfold phased phased phased at hph2
            rw [if_neg (by rw [hL2]; decide), if_neg (by rw [hLi]; decide)] at hph2
            refine phase_enters 67 #[.slice A4 64 c4] ?_ ?_
            · clear dep old ho hsz hph hnot hyes hLi hph2 hL2
              go_simp
            refine (new_any (.slice A4 64 c4) b w2 (by rw [HL64.out]; omega) (HR4.out.below hph2)).mono ?_
            rintro e w' ⟨g2, rfl, hr, hb⟩
            refine ⟨_, rfl, (fun u hu => by cases Option.some.inj hu), ?_⟩
            unfold phased phased
            rw [if_neg (by simp [also, hL2]), if_pos (by simp [also])]
            refine ⟨by simp [also], g2, by simp [yielding], ?_, hph2.trans (hb.mono hph2.size)⟩
            exact hr.lower hph2.size
          | 2, ho =>
            obtain rfl := Option.some.inj ho
            rw [if_pos (wanted_none rfl)]
            have hph2 := hph
            unfold phased phased at hph2
            rw [if_neg (by rw [hLi]; decide), if_pos (hyes 1 (by kernel_rfl))] at hph2
            obtain ⟨_, g2, hv2, hr2, hb2⟩ := hph2
            rw [got_dst rfl rfl] at hv2
            have ev2 := (Array.getD_eq_getD_getElem? ..).symm.trans hv2
            have hnum := num_any 4 hr2 (by rw [HL64.out]; omega)
            rw [HN.out.1, HN.out.2] at hnum
            refine phase_enters 68 #[ptr g2, .int .i64 4] ?_ ?_
            · clear dep old ho hsz hph hnot hyes hLi hnum
              go_simp
            refine hnum.mono ?_
            rintro e w' ⟨rfl, hr, hg⟩
            refine ⟨_, rfl, (fun u hu => Option.some.inj (Option.some.inj hu)), ?_⟩
            unfold phased
            rw [if_pos (by simp [also])]
            exact ⟨by simp [also], hb2.grown hg hb2.size (fun k hk => by injection hk with hk; have := hr.lo_le; omega)⟩
          | 3, ho =>
            obtain rfl := Option.some.inj ho
            rw [if_pos (wanted_none rfl)]
            have o0 := old 0 (by kernel_rfl)
            refine wp_yields (v := .pointer (some ⟨g, 0, none⟩)) (w' := w2) ?_ (fun u hu => Option.some.inj (Option.some.inj hu)) (phased_quiet hLi (by rfl) hph)
            clear dep old ho hsz hph hnot hyes hLi
            go_simp
          | 4, ho =>
            obtain rfl := Option.some.inj ho
            rw [if_pos (wanted_none rfl)]
            have d3 : a.tmps.getD 30 undef = .pointer (some ⟨g, 0, none⟩) := dep 3 _ _ (by kernel_rfl) rfl rfl _ rfl
            have e3 : a.tmps[30]?.getD undef = .pointer (some ⟨g, 0, none⟩) := (Array.getD_eq_getD_getElem? ..).symm.trans d3
            refine wp_yields (v := .pointer (some ⟨g, 0, none⟩)) (w' := w2) ?_ (fun u hu => Option.some.inj (Option.some.inj hu)) (phased_quiet hLi (by rfl) hph)
            clear dep old ho hsz hph hnot hyes hLi
            go_simp
          | 5, ho =>
            obtain rfl := Option.some.inj ho
            rw [if_pos (wanted_none rfl)]
            have d4 : a.tmps.getD 31 undef = .pointer (some ⟨g, 0, none⟩) := dep 4 _ _ (by kernel_rfl) rfl rfl _ rfl
            have e4 : a.tmps[31]?.getD undef = .pointer (some ⟨g, 0, none⟩) := (Array.getD_eq_getD_getElem? ..).symm.trans d4
            refine wp_yields (v := .pointer (some ⟨g, 3, none⟩)) (w' := w2) ?_ (fun u hu => Option.some.inj (Option.some.inj hu)) (phased_quiet hLi (by rfl) hph)
            clear dep old ho hsz hph hnot hyes hLi
            go_simp
          | 6, ho =>
            obtain rfl := Option.some.inj ho
            rw [if_pos (wanted_none rfl)]
            have d5 : a.tmps.getD 32 undef = .pointer (some ⟨g, 3, none⟩) := dep 5 _ _ (by kernel_rfl) rfl rfl _ rfl
            have e5 : a.tmps[32]?.getD undef = .pointer (some ⟨g, 3, none⟩) := (Array.getD_eq_getD_getElem? ..).symm.trans d5
            have hR : (fun w2 => Below w1.heap.size w1 w2) w2 := phased_all (R := fun w2 => Below w1.heap.size w1 w2) (fun p hp => by
              simp only [List.mem_cons, List.not_mem_nil, or_false] at hp
              rcases hp with rfl | rfl <;> first | exact fun _ _ h => h | exact fun _ _ ⟨_, _, _, h⟩ => h) (fun _ h => h) hph
            obtain ⟨hc0, hc1, hc2, hc3, hc4, hc5, hc6, hc7⟩ := (H1.out.below hR).cell
            refine wp_yields (v := .int .u64 (l.gen : Int)) (w' := w2) ?_ (fun u hu => Option.some.inj (Option.some.inj hu)) (phased_quiet hLi (by rfl) hph)
            clear dep old ho hsz hph hnot hyes hLi
            go_simp
          | 7, ho =>
            obtain rfl := Option.some.inj ho
            rw [if_pos (wanted_none rfl)]
            have d2 : a.tmps.getD 29 undef = .int .u64 (gn b : Int) := dep 2 _ _ (by kernel_rfl) rfl rfl _ rfl
            have e2 : a.tmps[29]?.getD undef = .int .u64 (gn b : Int) := (Array.getD_eq_getD_getElem? ..).symm.trans d2
            have d6 : a.tmps.getD 33 undef = .int .u64 (l.gen : Int) := dep 6 _ _ (by kernel_rfl) rfl rfl _ rfl
            have e6 : a.tmps[33]?.getD undef = .int .u64 (l.gen : Int) := (Array.getD_eq_getD_getElem? ..).symm.trans d6
            refine wp_yields (v := .bool bb) (w' := w2) ?_ (fun u hu => Option.some.inj (Option.some.inj hu)) (phased_quiet hLi (by rfl) hph)
            have hbb2 := HBB.out
            clear dep old ho hsz hph hnot hyes hLi
            go_simp
          | i + 8, ho => exact absurd ho (by simp)
        · intro a w2 hph hsz hdf fin keep
          obtain ⟨tm, df⟩ := a
          have hx := frame_of [27, 28, 29, 30, 31, 32, 33, 34] (by kernel_rfl) hsz keep
          dsimp only at hdf hx
          simp only [List.foldl_cons, List.foldl_nil] at hx
          subst hdf
          clear hsz keep
          have kn : tm.getD 27 undef = .slice A4 64 c4 := fin 0 _ _ rfl rfl _ rfl
          rw [kn] at hx
          clear kn
          generalize tm.getD 28 undef = y28 at hx
          have kn : tm.getD 29 undef = .int .u64 (gn b : Int) := fin 2 _ _ rfl rfl _ rfl
          rw [kn] at hx
          clear kn
          have kn : tm.getD 30 undef = .pointer (some ⟨g, 0, none⟩) := fin 3 _ _ rfl rfl _ rfl
          rw [kn] at hx
          clear kn
          have kn : tm.getD 31 undef = .pointer (some ⟨g, 0, none⟩) := fin 4 _ _ rfl rfl _ rfl
          rw [kn] at hx
          clear kn
          have kn : tm.getD 32 undef = .pointer (some ⟨g, 3, none⟩) := fin 5 _ _ rfl rfl _ rfl
          rw [kn] at hx
          clear kn
          have kn : tm.getD 33 undef = .int .u64 (l.gen : Int) := fin 6 _ _ rfl rfl _ rfl
          rw [kn] at hx
          clear kn
          have kn : tm.getD 34 undef = .bool bb := fin 7 _ _ rfl rfl _ rfl
          rw [kn] at hx
          clear kn
          clear fin
          simp only [List.setIfInBounds_toArray, List.set_cons_succ, List.set_cons_zero] at hx
          subst hx
          unfold phased at hph
          rw [if_pos rfl] at hph
          obtain ⟨_, hph⟩ := hph
          have H3 := hide (H2.out.below hph)
          have O3 := hide (O2.out.trans (Out.of_below hph))
          clear hph
          cases bb
          · have hgn : gn b = l.gen := by have := HBB.out.symm; rw [bne_eq_false_iff_eq] at this; omega
            rw [if_pos hgn] at SN
            have hwr := wrote_ln H3.out HF.out D1.out hk1 j hlt (n := 0) (b := []) rfl (by omega) (A := none) (c := 0) (Rd.nil_ _ _ _)
            rw [pad_nil] at hwr
            unfold ptr at hwr
            have hgo : gr.run (cleanR l gr.secs (l.first + l.nsec) (j + 1)) = GJ.run [.w (l.sec j) zsec] := by
              rw [SN.out]
              exact run_snoc GJE.out _
            have HG := hide hgo
            clear hgo
            cases hcd : (GJ.run [.w (l.sec j) zsec]).2
            · have hno : gr.run (cleanD l gr.secs (l.first + l.nsec)) = ((GJ.run [.w (l.sec j) zsec]).1, false) := by
                obtain ⟨t, ht⟩ := PF.out
                rw [ht]
                exact run_no (by rw [HG.out, ← hcd]) t
              have HNO := hide hno
              clear hno
              rw [hcd] at hwr
              go_wp2_with (go_at_call 81; ((with_reducible refine hwr.mono ?_); rintro e w4 ⟨v, rfl, rfl, hw⟩; try simp only [cd, Bool.false_eq_true, if_false]))
              go_ret
              rw [HNO.out]
              obtain ⟨d', kv', h1, h2, h3⟩ := hw
              exact ⟨_, rfl, rfl, d', kv', (N1.out.trans h1).more (by omega), h2, O3.out.trans h3⟩
            · rw [hcd] at hwr
              go_wp2_with (go_at_call 81; ((with_reducible refine hwr.mono ?_); rintro e w4 ⟨v, rfl, rfl, hw⟩; try simp only [cd, if_true]))
              go_roundw
              case rel =>
                obtain ⟨d', kv', h1, h2, h3⟩ := hw
                exact ⟨j + 1, by omega, by omega, by go_num, by rw [HG.out]; exact hcd, by rw [HG.out]; exact ⟨d', kv', (N1.out.trans h1).more (by omega), h2, O3.out.trans h3⟩⟩
              case measure => simp [intOf]; omega
          · have hgn : gn b ≠ l.gen := by have := HBB.out.symm; rw [bne_iff_ne] at this; omega
            rw [if_neg hgn, List.append_nil] at SN
            go_wp2
            go_roundw
            case rel => exact ⟨j + 1, by omega, by omega, by go_num, by rw [SN.out, GJE.out], dj, _, by rw [SN.out, GJE.out]; exact N1.out.more (by omega), H3.out, O3.out⟩
            case measure => simp [intOf]; omega
      · obtain rfl : j = 256 := by omega
        rw [cleanR_all] at hrun hnx
        have HR := hide hrun
        clear hrun
        go_wp2
        go_ret
        rw [HR.out]
        exact ⟨_, rfl, rfl, dj, kvj, hnx.more (by omega), hln, hout⟩
end
section
/- append onto what a lane keeps. -/
open Go.RowKit
set_option maxRecDepth 20000
set_option linter.unusedSimpArgs false
set_option linter.unusedVariables false

theorem own_blk (A : Option Addr) (n c : Nat) : (Value.slice A n c).ownBlock = blkOf (.slice A n c) := by
  cases A <;> rfl
theorem Kp.of_mine {w : World} {B : Nat} {v : Value} {l : List UInt8} (h : Mine w B v l) : Kp w v l := by
  obtain ⟨A, c, rfl⟩ := h.form
  exact ⟨A, c, rfl, h.rd, .inr (h.more (Nat.zero_le _))⟩
/-- append(kept, b...), b not empty. -/
theorem run_append_kp {w : World} (ty : TypeId) {kv : Value} {l b : List UInt8} (h : Kp w kv l) {x : Value} (hx : Rd w x (u8s b)) (hb : 0 < b.length) (hlen : l.length + b.length ≤ 100000) :
    ∃ v' w', (Builtin.append_ #[58, 58] ty #[kv, x]).run Try.prog w = .ok v' w' ∧ Kp w' v' (l ++ b) ∧ Kept (fun k => blkOf kv = some k) w w' ∧ ∀ k, blkOf v' = some k → blkOf kv = some k ∨ (w.heap.size ≤ k ∧ k < w'.heap.size) := by
  obtain ⟨i0, hi, hz0, hz1, hz2⟩ := info_parts info8
  obtain ⟨A, c, rfl, hr, hc⟩ := h
  have own : Mine w 0 (.slice A l.length c) l → ∃ v' w', (Builtin.append_ #[58, 58] ty #[.slice A l.length c, x]).run Try.prog w = .ok v' w' ∧ Kp w' v' (l ++ b) ∧ Kept (fun k => blkOf (.slice A l.length c) = some k) w w' ∧ ∀ k, blkOf v' = some k → blkOf (.slice A l.length c) = some k ∨ (w.heap.size ≤ k ∧ k < w'.heap.size) := by
    intro hm
    obtain ⟨v', w', h1, h2, h3, h4⟩ := run_append_rd (P := Try.prog) (w := w) (base := 0) 58 ty 5 i0 (.int .u8 0) 1 Try.underlying58 hi hz0 hz1 hz2 rfl _ l.length (u8s l) hm x (u8s b) hx (oneCell_u8s b) (by rw [u8s_length]; unfold maxLen; omega) (by rw [u8s_length]; omega) (Nat.zero_le _)
    have hm' : Mine w' 0 v' (l ++ b) := mine_rd h2
    refine ⟨v', w', h1, Kp.of_mine hm', (Kept.of_grown h3).mono (fun k hk => .inl (by rw [← own_blk]; exact hk)), fun k hk => ?_⟩
    obtain ⟨A', c', rfl⟩ := hm'.form
    rw [← own_blk] at hk
    rcases h4 with h4 | h4
    · rw [h4, own_blk] at hk
      exact .inl hk
    · have hlt := (World.ownsRow.lt hm' k hk).2
      rw [h4] at hk
      injection hk with hk
      exact .inr ⟨by omega, hlt⟩
  rcases hc with hc | hm
  · subst hc
    obtain ⟨A', c', ex, hcx, hA'⟩ := hx
    rw [u8s_length] at ex hcx hA'
    obtain ⟨bb, bo, rfl, hbb, hcell⟩ := hA' (by omega)
    subst ex
    cases A with
    | none =>
      have h0 : l = [] := by
        rcases Nat.eq_zero_or_pos l.length with h0 | hpos
        · exact List.eq_nil_of_length_eq_zero h0
        · obtain ⟨A2, c2, e2, _, hA2⟩ := hr
          injection e2 with e2
          obtain ⟨_, _, e3, _⟩ := hA2 (by rw [u8s_length]; exact hpos)
          rw [e3] at e2
          cases e2
      subst h0
      exact own (own_nil w 0 5)
    | some a =>
      have holds : ∀ j u, (u8s l)[j]? = some u → w.cell? (a.add j) = some u := by
        intro j u hu
        obtain ⟨A2, c2, e2, _, hA2⟩ := hr
        injection e2 with e2
        obtain ⟨b2, o2, e3, _, hc2⟩ := hA2 (by have := (List.getElem?_eq_some_iff.1 hu).1; omega)
        rw [e3] at e2
        injection e2 with e2
        subst e2
        rw [addr_add]
        exact hc2 j u hu
      obtain ⟨v', w', h1, h2, h3⟩ := run_append_arg_grows (P := Try.prog) w 58 ty 5 i0 (.int .u8 0) 1 1 Try.underlying58 hi hz0 hz1 hz2 rfl (by omega) a l.length l.length (u8s l) (by rw [u8s_length]; omega) holds
        ⟨bb, bo, none⟩ b.length c' (u8s b) (by rw [u8s_length]; omega) (fun j u hu => by rw [addr_add]; exact hcell j u hu) (by omega) (by unfold maxLen; omega) (by omega)
      have hm' : Mine w' w.heap.size v' (l ++ b) := by
        unfold Mine
        rw [u8s_append, List.length_append]
        exact h2
      refine ⟨v', w', h1, Kp.of_mine hm', (Kept.of_grown h3).mono (fun k hk => by cases hk), fun k hk => ?_⟩
      obtain ⟨A', c'', rfl⟩ := hm'.form
      rw [← own_blk] at hk
      exact .inr (World.ownsRow.lt hm' k hk)
  · exact own hm
theorem wpList_append_kp {w : World} {ops : Array Oper} {rest : List Oper} {o : Oper} {a : Act} {Q : Exit → Act → World → Prop} (hgd : o.guard = none) (s y : Operand)
    (ho : o.op = .call { callee := .builtin .append, args := #[s, y], argTypes := #[58, 58] }) {kv x : Value} {l b : List UInt8} (hs : a.eval s = kv) (hk : Kp w kv l) (hy : a.eval y = x) (hx : Rd w x (u8s b)) (hb : 0 < b.length) (hlen : l.length + b.length ≤ 100000)
    (h : ∀ v' w', Kp w' v' (l ++ b) → Kept (fun k => blkOf kv = some k) w w' → (∀ k, blkOf v' = some k → blkOf kv = some k ∨ (w.heap.size ≤ k ∧ k < w'.heap.size)) → wpList Try.prog ops Q rest (a.put o.dst v') w') : wpList Try.prog ops Q (o :: rest) a w := by
  refine wpList_plain hgd fun K hK => ?_
  obtain ⟨v', w', hrun, h2, h3, h4⟩ := run_append_kp o.type hk hx hb hlen
  unfold Oper.wp execOp
  simp only [ho, resolve, invoke, builtin, Sem.run_bind, Sem.run_pure, Result.andThen_ok, List.map_toArray, List.map_cons, List.map_nil, hs, hy, hrun]
  exact hK _ _ (h v' w' h2 h3 h4)
theorem Many.turn {w w' : World} {X Y S : Nat → Prop} {l : List (Nat × Ds)} (h : Many w X l) (hk : Kept S w w') (hS : ∀ k, S k → X k ∨ w.heap.size ≤ k) (hY : ∀ k, Y k → X k ∨ (w.heap.size ≤ k ∧ k < w'.heap.size)) : Many w' Y l := by
  obtain ⟨hX, labs, h1, h2, h3, h4⟩ := h
  have hlt : ∀ i k, labs i k ≠ 0 → k < w.heap.size := fun i k hk => labs_lt labs h1 h2 hk
  refine ⟨fun k hk2 => ?_, labs, fun i x hi => (h1 i x hi).keep hk (fun k hs => ?_), h2, fun i k hl hy => ?_, h4⟩
  · rcases hY k hk2 with h5 | h5
    · exact Nat.lt_of_lt_of_le (hX k h5) hk.size
    · exact h5.2
  · by_cases hz : labs i k = 0
    · exact hz
    · rcases hS k hs with h5 | h5
      · exact absurd h5 (h3 i k hz)
      · have := hlt i k hz; omega
  · rcases hY k hy with h5 | h5
    · exact h3 i k hl h5
    · have := hlt i k hl; omega
/-- What is kept was turned, and is stored. -/
theorem LnAt.appended {w w1 : World} {X : Nat → Prop} {dg : Nat} {d : Ds} {g : Nat} {l : Ln} {kv v' : Value} {b : List UInt8} (h : LnAt w X dg d g l kv) (hk : Kept (fun k => blkOf kv = some k) w w1) (hkp : Kp w1 v' b)
    (hnew : ∀ k, blkOf v' = some k → blkOf kv = some k ∨ (w.heap.size ≤ k ∧ k < w1.heap.size)) : LnAt (w1.setCell ⟨g, 5, none⟩ v') X dg d g (l.setKept b) v' ∧ Out X w (w1.setCell ⟨g, 5, none⟩ v') := by
  have hgk : ¬ blkOf kv = some g := fun e => (h.xk g e).2 rfl
  have hglt := h.lt
  have hne : ∀ k, blkOf v' = some k → ¬ X k ∧ k ≠ g := by
    intro k e
    rcases hnew k e with h1 | h1
    · exact h.xk k h1
    · refine ⟨fun hx => ?_, by omega⟩
      have := h.many.1 k (.inl hx : LX X g kv k)
      omega
  have hm1 : Many w1 (LX X g v') [(dg, d)] := h.many.turn hk (fun k hs => .inl (.inr (.inr hs))) (fun k hy => by
    rcases hy with h1 | h1 | h1
    · exact .inl (.inl h1)
    · exact .inl (.inr (.inl h1))
    · rcases hnew k h1 with h2 | h2
      · exact .inl (.inr (.inr h2))
      · exact .inr h2)
  have hk2 := kept_set w1 g 5 v'
  refine ⟨⟨hm1.foreign hk2 (fun k e => .inl (.inr (.inl e))), h.xg, hne, (hk.blk h.blk hgk).set_ 5 _, hkp.out (X := fun k => k ≠ g) (hk2.mono (fun i hi => .inl (fun hn => hn hi))) (fun k e => (hne k e).2)⟩, ?_⟩
  exact Out.trans (X := X) (hk.mono (fun k e => .inl (h.xk k e).1)) (hk2.mono (fun k e => .inl (by rw [e]; exact h.xg)))
end
section
/- A region whose order is drawn: 'append(append(append(b, x...), byte(n)), y...)': one row of the call's own that is appended to step by step, one small slice made on the way, all else only read. -/
open Go.RowKit
set_option maxRecDepth 20000

set_option linter.unusedSimpArgs false
set_option linter.unusedVariables false

theorem Mine.below {w w' : World} {base : Nat} {v : Value} {l : List UInt8} (h : Mine w base v l) (hb : Below w.heap.size w w') : Mine w' base v l := by
  refine World.ownsRow.kept (row := none) h ⟨hb.os, hb.tape, hb.output, hb.size, fun k hk _ => hb.block k hk⟩ ?_
  cases hv : v.ownBlock with
  | none => exact .inl rfl
  | some k => exact .inr fun e => by cases e
/-- A new row. -/
theorem mine_new (w : World) (l : List UInt8) (n : Nat) {cells : Array Value} {base g : Nat} (hc : cells = blk8 l) (hn : l.length = n) (hl : n ≤ 1000000) (hg : w.heap.size = g) (hb : base ≤ g) : Mine (w.alloc (.cells cells 5)) base (.slice (some ⟨g, 0, none⟩) n n) l := by
  subst hc hn hg
  refine ⟨by rw [u8s_length, Nat.mul_one], .inr ⟨w.heap.size, l.length, blk8 l, rfl, hb, heap_new w _, Nat.le_refl _, by unfold maxLen; omega, by rw [blk8_size, Nat.mul_one], ?_⟩⟩
  rw [Nat.mul_one, ← u8s_length l, blk8, List.toList_toArray, List.take_length]
/-- The row, and what it holds, by which appends have come up (the last one first). -/
def curC : List (Nat × List UInt8) → Value → List UInt8 → (Nat → Bool) → (Nat → Value) → Value × List UInt8
  | [], v0, l0, _, _ => (v0, l0)
  | x :: r, v0, l0, L, f => if L x.1 = true then (f x.1, x.2) else curC r v0 l0 L f
/-- What holds on the way. -/
def Chain (K : World → Prop) (base : Nat) (v0 : Value) (l0 : List UInt8) (ch : List (Nat × List UInt8)) (iS : Nat) (sl : List UInt8) : Phases := fun L f w =>
  K w ∧ Mine w base (curC ch v0 l0 L f).1 (curC ch v0 l0 L f).2 ∧ (L iS = true → ∃ b, f iS = .slice (some ⟨b, 0, none⟩) sl.length sl.length ∧ Blk w b 5 (blk8 sl))
def chainB (ops : Array Oper) (ch : List (Nat × List UInt8)) (iS : Nat) : Bool := (ch.all fun x => decide (x.1 < ops.size) && ((ops[x.1]?).bind (·.dst)).isSome) && (decide (iS < ops.size) && ((ops[iS]?).bind (·.dst)).isSome)
theorem has_dst {ops : Array Oper} {j : Nat} (hd : ((ops[j]?).bind (·.dst)).isSome = true) : ∃ o d, ops[j]? = some o ∧ o.dst = some d := by
  cases ho : ops[j]? with
  | none => rw [ho] at hd; simp at hd
  | some o =>
    rw [ho] at hd
    simp only [Option.bind_some] at hd
    obtain ⟨d, hd⟩ := Option.isSome_iff_exists.1 hd
    exact ⟨o, d, rfl, hd⟩
theorem curC_ext {ops : Array Oper} {v0 : Value} {l0 : List UInt8} {L L' : Nat → Bool} {f f' : Nat → Value} : ∀ {ch : List (Nat × List UInt8)}, (ch.all fun x => decide (x.1 < ops.size) && ((ops[x.1]?).bind (·.dst)).isSome) = true → (∀ j, j < ops.size → L j = L' j) →
    (∀ j, j < ops.size → L j = true → (∃ o d, ops[j]? = some o ∧ o.dst = some d) → f j = f' j) → curC ch v0 l0 L f = curC ch v0 l0 L' f'
  | [], _, _, _ => rfl
  | x :: r, hB, hL, hf => by
    simp only [List.all_cons, Bool.and_eq_true, decide_eq_true_eq] at hB
    unfold curC
    rw [← hL _ hB.1.1]
    by_cases h : L x.1 = true
    · rw [if_pos h, if_pos h, hf _ hB.1.1 h (has_dst hB.1.2)]
    · rw [if_neg h, if_neg h]
      exact curC_ext hB.2 hL hf
theorem Chain.ext {ops : Array Oper} {K : World → Prop} {base : Nat} {v0 : Value} {l0 : List UInt8} {ch : List (Nat × List UInt8)} {iS : Nat} {sl : List UInt8} (hB : chainB ops ch iS = true) (L L' : Nat → Bool) (f f' : Nat → Value) (w : World) (hL : ∀ j, j < ops.size → L j = L' j)
    (hf : ∀ j, j < ops.size → L j = true → (∃ o d, ops[j]? = some o ∧ o.dst = some d) → f j = f' j) (h : Chain K base v0 l0 ch iS sl L f w) : Chain K base v0 l0 ch iS sl L' f' w := by
  unfold chainB at hB
  rw [Bool.and_eq_true] at hB
  obtain ⟨h1, h2⟩ := hB
  obtain ⟨hk, hm, hs⟩ := h
  rw [curC_ext h1 hL hf] at hm
  refine ⟨hk, hm, fun hl => ?_⟩
  simp only [Bool.and_eq_true, decide_eq_true_eq] at h2
  rw [← hL _ h2.1] at hl
  rw [← hf _ h2.1 hl (has_dst h2.2)]
  exact hs hl
theorem curC_quiet {v0 v : Value} {l0 : List UInt8} {L : Nat → Bool} {f : Nat → Value} {i : Nat} : ∀ {ch : List (Nat × List UInt8)}, (ch.all fun x => x.1 != i) = true → curC ch v0 l0 (also L i) (yielding f i v) = curC ch v0 l0 L f
  | [], _ => rfl
  | x :: r, h => by
    simp only [List.all_cons, Bool.and_eq_true, bne_iff_ne, ne_eq] at h
    unfold curC
    have e : also L i x.1 = L x.1 := by simp [also, h.1]
    rw [e, curC_quiet h.2]
    have e2 : yielding f i v x.1 = f x.1 := by simp [yielding, h.1]
    rw [e2]
/-- An operation that only reads. -/
theorem Chain.quiet {K : World → Prop} {base : Nat} {v0 : Value} {l0 : List UInt8} {ch : List (Nat × List UInt8)} {iS : Nat} {sl : List UInt8} {L : Nat → Bool} {f : Nat → Value} {i : Nat} {v : Value} {w : World} (hc : (ch.all fun x => x.1 != i) = true) (hi : (iS != i) = true)
    (h : Chain K base v0 l0 ch iS sl L f w) : Chain K base v0 l0 ch iS sl (also L i) (yielding f i v) w := by
  obtain ⟨hk, hm, hs⟩ := h
  rw [bne_iff_ne] at hi
  refine ⟨hk, by rw [curC_quiet hc]; exact hm, fun hl => ?_⟩
  have e : also L i iS = L iS := by simp [also, hi]
  rw [e] at hl
  have e2 : yielding f i v iS = f iS := by simp [yielding, hi]
  rw [e2]
  exact hs hl
/-- The small slice. -/
theorem Chain.slice {K : World → Prop} {base : Nat} {v0 : Value} {l0 : List UInt8} {ch : List (Nat × List UInt8)} {iS : Nat} {sl : List UInt8} {L : Nat → Bool} {f : Nat → Value} {w : World} (hc : (ch.all fun x => x.1 != iS) = true) (hK : K (w.alloc (.cells (blk8 sl) 5)))
    (h : Chain K base v0 l0 ch iS sl L f w) : Chain K base v0 l0 ch iS sl (also L iS) (yielding f iS (.slice (some ⟨w.heap.size, 0, none⟩) sl.length sl.length)) (w.alloc (.cells (blk8 sl) 5)) := by
  obtain ⟨hk, hm, hs⟩ := h
  refine ⟨hK, by rw [curC_quiet hc]; exact hm.alloc _, fun _ => ⟨w.heap.size, by simp [yielding], heap_new w _⟩⟩
theorem mine_apart {w : World} {base : Nat} {u : Value} {l sl : List UInt8} {b : Nat} (hm : Mine w base u l) (hb : Blk w b 5 (blk8 sl)) (hlong : sl.length < l.length) : u.ownBlock ≠ some b := by
  intro e
  rcases hm.2 with ⟨rfl, _⟩ | ⟨g, cap, cur, rfl, _, hg, hn, _, hcs, _⟩
  · cases e
  · injection e with e
    subst e
    unfold Blk at hb
    rw [hb] at hg
    injection hg with hg
    injection hg with hg
    have h1 := blk8_size sl
    rw [hg] at h1
    omega
/-- An append. -/
theorem Chain.step {K : World → Prop} {base : Nat} {v0 : Value} {l0 : List UInt8} {ch : List (Nat × List UInt8)} {iS : Nat} {sl : List UInt8} {L : Nat → Bool} {f : Nat → Value} {i : Nat} {v u : Value} {l lp : List UInt8} {w w' : World} (h : Chain K base v0 l0 ch iS sl L f w) (hi : (iS != i) = true) (hcur : curC ch v0 l0 L f = (u, lp))
    (hnow : curC ch v0 l0 (also L i) (yielding f i v) = (v, l)) (hlong : sl.length < lp.length) (hK : K w') (hm' : Mine w' base v l) (hg : w.grownBy w' u.ownBlock) : Chain K base v0 l0 ch iS sl (also L i) (yielding f i v) w' := by
  obtain ⟨hk, hm, hs⟩ := h
  rw [hcur] at hm
  rw [bne_iff_ne] at hi
  refine ⟨hK, by rw [hnow]; exact hm', fun hl => ?_⟩
  have e : also L i iS = L iS := by simp [also, hi]
  rw [e] at hl
  have e2 : yielding f i v iS = f iS := by simp [yielding, hi]
  rw [e2]
  obtain ⟨b, e3, hb⟩ := hs hl
  exact ⟨b, e3, (hg.block b hb.lt (fun e => mine_apart hm hb hlong e.symm)).trans hb⟩
section
variable {P : Program} {w : World}
/-- append of a string, as an operation anywhere. -/
theorem wp_append_str {o : Oper} {a : Act} {K : Act → World → Prop} {Q : Exit → Act → World → Prop} (s x : Operand) (t u : TypeId) (ho : o.op = .call { callee := .builtin .append, args := #[s, x], argTypes := #[t, u] }) (i : TypeInfo) (ht : P.underlying t = some (.slice 5)) (hu : P.underlying u = some .string) (hi : P.info? 5 = some i) (hz : i.zero = some (.int .u8 0)) (hsize : i.size = 1) (hby : i.bytes = 1)
    {base : Nat} {v : Value} {l : List UInt8} (hs : a.eval s = v) (hown : Mine w base v l) {str : ByteArray} (hx : a.eval x = .string str) (hl : l.length + str.size ≤ 1000000) (hbase : base ≤ w.heap.size)
    (h : ∀ v' w', Mine w' base v' (l ++ str.data.toList) → w.grownBy w' v.ownBlock → K (a.put o.dst v') w') : o.wp P a w K Q := by
  obtain ⟨v', w', hrun, h2, h3, _⟩ := Lib.run_append_own_string (P := P) w base t u o.type 5 i ht hu hi hz hsize hby v l.length (u8s l) hown str (by unfold maxLen; omega) (by omega) hbase
  have hm : Mine w' base v' (l ++ str.data.toList) := by
    unfold Mine
    rw [u8s_append, List.length_append, show str.data.toList.length = str.size from Array.length_toList]
    exact h2
  unfold Oper.wp execOp
  simp only [ho, resolve, invoke, builtin, Sem.run_bind, Sem.run_pure, Result.andThen_ok, List.map_toArray, List.map_cons, List.map_nil, hs, hx, hrun]
  exact h v' w' hm h3
/-- append of a slice that reads as bytes. -/
theorem wp_append_bytes {o : Oper} {a : Act} {K : Act → World → Prop} {Q : Exit → Act → World → Prop} (s y : Operand) (t : TypeId) (ho : o.op = .call { callee := .builtin .append, args := #[s, y], argTypes := #[t, t] }) (i : TypeInfo) (ht : P.underlying t = some (.slice 5)) (hi : P.info? 5 = some i) (hz : i.zero = some (.int .u8 0)) (hsize : i.size = 1) (hby : i.bytes = 1)
    {base : Nat} {v x : Value} {l m : List UInt8} (hs : a.eval s = v) (hown : Mine w base v l) (hy : a.eval y = x) (hx : Rd w x (u8s m)) (hl : l.length + m.length ≤ 1000000) (hbase : base ≤ w.heap.size)
    (h : ∀ v' w', Mine w' base v' (l ++ m) → w.grownBy w' v.ownBlock → K (a.put o.dst v') w') : o.wp P a w K Q := by
  obtain ⟨v', w', hrun, h2, h3, _⟩ := run_append_rd (P := P) (w := w) t o.type 5 i (.int .u8 0) 1 ht hi hz hsize hby rfl v l.length (u8s l) hown x (u8s m) hx (oneCell_u8s m) (by rw [u8s_length]; unfold maxLen; omega) (by rw [u8s_length]; omega) hbase
  have hm : Mine w' base v' (l ++ m) := by
    unfold Mine
    rw [u8s_append, List.length_append, ← u8s_length m]
    exact h2
  unfold Oper.wp execOp
  simp only [ho, resolve, invoke, builtin, Sem.run_bind, Sem.run_pure, Result.andThen_ok, List.map_toArray, List.map_cons, List.map_nil, hs, hy, hrun]
  exact h v' w' hm h3
end
end

end Go.Proofs.Ytkdcnddagebjpaa
