/-
  What stage 7's statements lean on, part 4 of 6 (put together by merge.py).
-/
import Derived.Test.YtlplibgcfhamgaaB3
namespace Go.Proofs.Ytlplibgcfhamgaa
set_option linter.unusedSimpArgs false
set_option linter.unusedVariables false
section
/- A region whose order is drawn, whose operations only grow the memory till the last one, a call that may turn what it likes; behind it its value is only moved. -/
open Go.RowKit
set_option maxRecDepth 20000

/-- Operation k comes last, but for moves of what it yields. -/
def lastB (ops : Array Oper) (k : Nat) : Bool := (List.range ops.size).all fun i => if i < k then ahead ops k i else if i = k then true else behind ops i k && ahead ops i k
theorem lastB_low {ops : Array Oper} {k i : Nat} (h : lastB ops k = true) (hi : i < ops.size) (hk : i < k) : ahead ops k i = true := by
  unfold lastB at h
  rw [List.all_eq_true] at h
  have := h i (List.mem_range.2 hi)
  rwa [if_pos hk] at this
theorem lastB_high {ops : Array Oper} {k i : Nat} (h : lastB ops k = true) (hi : i < ops.size) (hk : k < i) : behind ops i k = true ∧ ahead ops i k = true := by
  unfold lastB at h
  rw [List.all_eq_true] at h
  have := h i (List.mem_range.2 hi)
  rwa [if_neg (by omega), if_neg (by omega), Bool.and_eq_true] at this
section
variable {P : Program} {ops : Array Oper} {Q : Exit → Act → World → Prop}
def lasts (ops : Array Oper) (l : List Say) (k : Nat) (R : Value → World → Prop) (W : World) : Phases := fun L f w =>
  if L k = true then R (f k) w ∧ ∀ j, k < j → j < ops.size → L j = true → (∃ o d, ops[j]? = some o ∧ o.dst = some d) → f j = f k
  else Below W.heap.size W w ∧ ∀ j, j < k → L j = true → (∃ o d, ops[j]? = some o ∧ o.dst = some d) → (says l j).p w (f j)
theorem region_last {id : Nat} {a0 : Act} {W : World} (k dk : Nat) (l : List Say) (R : Value → World → Prop) {ok : Oper} (hk : ops[k]? = some ok) (hdk : ok.dst = some dk) (hgk : ok.guard = none) (hlast : lastB ops k = true)
    (hm : P.follows .mixedOrders = true) (hB : onceB ops = true) (hR : roomB ops a0.tmps.size = true) (hlow : lowB ops = true)
    (duty : ∀ i o, i < k → ops[i]? = some o → DutyG P ops Q l a0 W i o)
    (turn : ∀ (a : Act) (w : World), Below W.heap.size W w → a.tmps.size = a0.tmps.size → (∀ t, oldB ops k t = true → a.tmps.getD t undef = a0.tmps.getD t undef) →
      (∀ j oj d, behind ops k j = true → ops[j]? = some oj → oj.dst = some d → (says l j).p w (a.tmps.getD d undef)) → ok.wp P a w (fun a' w' => ∃ v, a' = a.put ok.dst v ∧ R v w') Q)
    (move : ∀ i o, k < i → ops[i]? = some o → o.guard = none ∧ ∀ (a : Act) (w : World), (execOp a.eval o).run P w = .ok (.value (a.tmps.getD dk undef)) w)
    (fin : ∀ a w v, R v w → a.tmps.size = a0.tmps.size → a.defers = a0.defers → a.tmps.getD dk undef = v → (∀ (j : Nat) (o : Oper) (d : Tmp), k < j → ops[j]? = some o → o.dst = some d → a.tmps.getD d undef = v) →
      (∀ t : Tmp, neverB ops t = true → a.tmps.getD t undef = a0.tmps.getD t undef) → Q .normal a w) :
    (Code.region id ops true).wp P Q a0 W := by
  have hks : k < ops.size := (Array.getElem?_eq_some_iff.1 hk).1
  refine region_phases (fun _ _ => True) (lasts ops l k R W) hm hB hR hlow ?_ ?_ ?_ ?_
  · intro L L' f f' w hL hf h
    unfold lasts at h ⊢
    rw [← hL k hks]
    split
    · rename_i hlk
      rw [if_pos hlk] at h
      have e := hf k hks hlk ⟨ok, dk, hk, hdk⟩
      refine ⟨by rw [← e]; exact h.1, fun j hkj hj hl hex => ?_⟩
      have hl' : L j = true := by rw [hL j hj]; exact hl
      rw [← e, ← hf j hj hl' hex]
      exact h.2 j hkj hj hl' hex
    · rename_i hlk
      rw [if_neg hlk] at h
      refine ⟨h.1, fun j hj hl hex => ?_⟩
      have hl' : L j = true := by rw [hL j (by omega)]; exact hl
      rw [← hf j (by omega) hl' hex]
      exact h.2 j hj hl' hex
  · unfold lasts
    rw [if_neg (by simp)]
    exact ⟨(Below.refl _ _).drew, fun _ _ h => by cases h⟩
  · intro i o ho L a w hph hsz hLi hnot hyes old dep
    have hi : i < ops.size := (Array.getElem?_eq_some_iff.1 ho).1
    rcases Nat.lt_trichotomy i k with h | h | h
    · have hLk : ¬ L k = true := by rw [hnot k (lastB_low hlast hi h)]; decide
      unfold lasts at hph
      rw [if_neg hLk] at hph
      have h1 := duty i o h ho a w hph.1 hsz old (fun j oj d hbd hoj hd => by
        have hjk : j < k := by
          rcases Nat.lt_or_ge j k with h2 | h2
          · exact h2
          · have hj : j < ops.size := (Array.getElem?_eq_some_iff.1 hoj).1
            have := hyes j hbd
            rcases Nat.lt_or_eq_of_le h2 with h3 | h3
            · exfalso
              have hlow' : j < i := by
                unfold lowB at hlow
                rw [List.all_eq_true] at hlow
                have h4 := hlow i (List.mem_range.2 hi)
                unfold behind at hbd
                rw [ho] at h4 hbd
                simp only [Option.map_some, Option.getD_some] at h4 hbd
                rw [Array.all_eq_true'] at h4
                rw [Array.any_eq_true'] at hbd
                obtain ⟨e, he, hb⟩ := hbd
                rw [Bool.and_eq_true, beq_iff_eq] at hb
                have h5 := h4 e he
                rw [hb.1] at h5
                simp only [Bool.not_true, Bool.false_or, decide_eq_true_eq] at h5
                omega
              omega
            · subst h3; exact absurd this hLk
        have := hph.2 j hjk (hyes j hbd) ⟨oj, d, hoj, hd⟩
        rwa [got_dst hoj hd] at this)
      have step : ∀ (v : Value) (w' : World), (says l i).p w' v → Below w.heap.size w w' → lasts ops l k R W (also L i) (yielding (got ops a) i v) w' := by
        intro v w' hs hb
        unfold lasts
        rw [if_neg (by simp only [also]; rw [beq_eq_false_iff_ne.2 (by omega : k ≠ i), Bool.false_or]; exact hLk)]
        refine ⟨hph.1.trans (hb.mono hph.1.size), fun j hj hl hex => ?_⟩
        by_cases e : j = i
        · subst e
          simpa [yielding] using hs
        · have h1 := hph.2 j hj (by simpa [also, e] using hl) hex
          have := (says l j).st w w' _ h1 hb
          simpa [yielding, e] using this
      split at h1
      · rename_i hw
        rw [if_pos hw]
        refine Oper.wp_mono ?_ h1
        rintro a' w' ⟨v, e, hs, hb⟩
        exact ⟨v, e, trivial, step v w' hs hb⟩
      · rename_i hw
        rw [if_neg hw]
        exact ⟨trivial, step _ _ h1 (Below.refl _ _)⟩
    · subst h
      rw [hk] at ho
      obtain rfl := Option.some.inj ho
      rw [if_pos (wanted_none hgk)]
      unfold lasts at hph
      rw [if_neg (by rw [hLi]; decide)] at hph
      have h1 := turn a w hph.1 hsz old (fun j oj d hbd hoj hd => by
        have hj : j < ops.size := (Array.getElem?_eq_some_iff.1 hoj).1
        have hLj := hyes j hbd
        have hji : j < i := by
          rcases Nat.lt_trichotomy j i with h2 | h2 | h2
          · exact h2
          · subst h2; rw [hLi] at hLj; cases hLj
          · rw [hnot j (lastB_high hlast hj h2).2] at hLj; cases hLj
        have := hph.2 j hji hLj ⟨oj, d, hoj, hd⟩
        rwa [got_dst hoj hd] at this)
      refine Oper.wp_mono ?_ h1
      rintro a' w' ⟨v, e, hr⟩
      refine ⟨v, e, trivial, ?_⟩
      unfold lasts
      rw [if_pos (by simp [also])]
      refine ⟨by simpa [yielding] using hr, fun j hij hj hl _ => ?_⟩
      exfalso
      have : L j = true := by simpa [also, Nat.ne_of_gt hij] using hl
      rw [hnot j (lastB_high hlast hj hij).2] at this
      cases this
    · have hh := lastB_high hlast hi h
      have hLk := hyes k hh.1
      obtain ⟨hg, hrun⟩ := move i o h ho
      rw [if_pos (wanted_none hg)]
      unfold lasts at hph
      rw [if_pos hLk] at hph
      rw [got_dst hk hdk] at hph
      refine wp_yields (V := fun _ _ => True) (M := lasts ops l k R W) (v := a.tmps.getD dk undef) (w' := w) (hrun a w) trivial ?_
      unfold lasts
      have hlk2 : also L i k = true := by simp [also, hLk]
      rw [if_pos hlk2]
      have ek : yielding (got ops a) i (a.tmps.getD dk undef) k = a.tmps.getD dk undef := by
        unfold yielding
        rw [if_neg (by omega), got_dst hk hdk]
      rw [ek]
      refine ⟨hph.1, fun j hkj hj hl hex => ?_⟩
      unfold yielding
      by_cases e : j = i
      · rw [if_pos e]
      · rw [if_neg e]
        have hl' : L j = true := by simpa [also, e] using hl
        exact hph.2 j hkj hj hl' hex
  · intro a w hph hsz hdf _ keep
    unfold lasts at hph
    rw [if_pos rfl, got_dst hk hdk] at hph
    refine fin a w _ hph.1 hsz hdf rfl (fun j o d hkj ho hd => ?_) keep
    have := hph.2 j hkj (Array.getElem?_eq_some_iff.1 ho).1 rfl ⟨o, d, ho, hd⟩
    rwa [got_dst ho hd] at this
/-- The call. -/
theorem last_enters {o : Oper} {a : Act} {w : World} {f : FuncId} {args : Array Value} {R : Value → World → Prop} (hrun : (execOp a.eval o).run P w = .ok (.enter f args) w)
    (hc : Calls P f args w fun e w' => ∃ v, e = .returned v ∧ R v w') : o.wp P a w (fun a' w' => ∃ v, a' = a.put o.dst v ∧ R v w') Q := by
  unfold Oper.wp
  rw [hrun, Oper.upon_enter]
  refine hc.mono ?_
  rintro e w' ⟨v, rfl, hr⟩
  exact ⟨v, rfl, hr⟩
def stored (ops : Array Oper) (l : List Say) (k : Nat) (R : World → Prop) (W : World) : Phases := fun L f w =>
  if L k = true then R w
  else Below W.heap.size W w ∧ ∀ j, j < k → L j = true → (∃ o d, ops[j]? = some o ∧ o.dst = some d) → (says l j).p w (f j)
/-- The same, the last operation a store. -/
theorem region_store {id : Nat} {a0 : Act} {W : World} (k : Nat) (l : List Say) (R : World → Prop) {ok : Oper} (hk : ops[k]? = some ok) (hdk : ok.dst = none) (hgk : ok.guard = none) (hsz : ops.size = k + 1) (hlast : lastB ops k = true)
    (hm : P.follows .mixedOrders = true) (hB : onceB ops = true) (hR : roomB ops a0.tmps.size = true) (hlow : lowB ops = true)
    (duty : ∀ i o, i < k → ops[i]? = some o → DutyG P ops Q l a0 W i o)
    (turn : ∀ (a : Act) (w : World), Below W.heap.size W w → a.tmps.size = a0.tmps.size → (∀ t, oldB ops k t = true → a.tmps.getD t undef = a0.tmps.getD t undef) →
      (∀ j oj d, behind ops k j = true → ops[j]? = some oj → oj.dst = some d → (says l j).p w (a.tmps.getD d undef)) → ∃ w', (execOp a.eval ok).run P w = .ok .skip w' ∧ R w')
    (fin : ∀ a w, R w → a.tmps.size = a0.tmps.size → a.defers = a0.defers → (∀ t : Tmp, neverB ops t = true → a.tmps.getD t undef = a0.tmps.getD t undef) → Q .normal a w) :
    (Code.region id ops true).wp P Q a0 W := by
  have hks : k < ops.size := by omega
  refine region_phases (fun _ _ => True) (stored ops l k R W) hm hB hR hlow ?_ ?_ ?_ ?_
  · intro L L' f f' w hL hf h
    unfold stored at h ⊢
    rw [← hL k hks]
    split
    · rename_i hlk
      rwa [if_pos hlk] at h
    · rename_i hlk
      rw [if_neg hlk] at h
      refine ⟨h.1, fun j hj hl hex => ?_⟩
      have hl' : L j = true := by rw [hL j (by omega)]; exact hl
      rw [← hf j (by omega) hl' hex]
      exact h.2 j hj hl' hex
  · unfold stored
    rw [if_neg (by simp)]
    exact ⟨(Below.refl _ _).drew, fun _ _ h => by cases h⟩
  · intro i o ho L a w hph hsz2 hLi hnot hyes old dep
    have hi : i < ops.size := (Array.getElem?_eq_some_iff.1 ho).1
    have hdep : ∀ j oj d, ¬ L k = true → behind ops i j = true → ops[j]? = some oj → oj.dst = some d → (says l j).p w (a.tmps.getD d undef) := by
      intro j oj d hLk hbd hoj hd
      unfold stored at hph
      rw [if_neg hLk] at hph
      have hj : j < ops.size := (Array.getElem?_eq_some_iff.1 hoj).1
      have hjk : j < k := by
        rcases Nat.lt_or_ge j k with h2 | h2
        · exact h2
        · obtain rfl : j = k := by omega
          exact absurd (hyes j hbd) hLk
      have := hph.2 j hjk (hyes j hbd) ⟨oj, d, hoj, hd⟩
      rwa [got_dst hoj hd] at this
    rcases Nat.lt_or_ge i k with h | h
    · have hLk : ¬ L k = true := by rw [hnot k (lastB_low hlast hi h)]; decide
      unfold stored at hph
      rw [if_neg hLk] at hph
      have h1 := duty i o h ho a w hph.1 hsz2 old (fun j oj d hbd hoj hd => hdep j oj d hLk hbd hoj hd)
      have step : ∀ (v : Value) (w' : World), (says l i).p w' v → Below w.heap.size w w' → stored ops l k R W (also L i) (yielding (got ops a) i v) w' := by
        intro v w' hs hb
        unfold stored
        rw [if_neg (by simp only [also]; rw [beq_eq_false_iff_ne.2 (by omega : k ≠ i), Bool.false_or]; exact hLk)]
        refine ⟨hph.1.trans (hb.mono hph.1.size), fun j hj hl hex => ?_⟩
        by_cases e : j = i
        · subst e
          simpa [yielding] using hs
        · have h1 := hph.2 j hj (by simpa [also, e] using hl) hex
          have := (says l j).st w w' _ h1 hb
          simpa [yielding, e] using this
      split at h1
      · rename_i hw
        rw [if_pos hw]
        refine Oper.wp_mono ?_ h1
        rintro a' w' ⟨v, e, hs, hb⟩
        exact ⟨v, e, trivial, step v w' hs hb⟩
      · rename_i hw
        rw [if_neg hw]
        exact ⟨trivial, step _ _ h1 (Below.refl _ _)⟩
    · obtain rfl : i = k := by omega
      rw [hk] at ho
      obtain rfl := Option.some.inj ho
      rw [if_pos (wanted_none hgk)]
      have hLk : ¬ L i = true := by rw [hLi]; decide
      have hph2 := hph
      unfold stored at hph2
      rw [if_neg hLk] at hph2
      obtain ⟨w', hrun, hr⟩ := turn a w hph2.1 hsz2 old (fun j oj d hbd hoj hd => hdep j oj d hLk hbd hoj hd)
      refine wp_skips (V := fun _ _ => True) (M := stored ops l i R W) (w' := w') hrun trivial ?_
      unfold stored
      rw [if_pos (by simp [also])]
      exact hr
  · intro a w hph hsz2 hdf _ keep
    unfold stored at hph
    rw [if_pos rfl] at hph
    exact fin a w hph hsz2 hdf keep
/-- A call, in a region by phases. -/
theorem phase_enters {o : Oper} {a : Act} {w : World} {i : Nat} {L : Nat → Bool} {V : Nat → Value → Prop} {M : Phases} (f : FuncId) (args : Array Value) (hrun : (execOp a.eval o).run P w = .ok (.enter f args) w)
    (hc : Calls P f args w fun e w' => ∃ v, e = .returned v ∧ V i v ∧ M (also L i) (yielding (got ops a) i v) w') : o.wp P a w (fun a' w' => ∃ v, a' = a.put o.dst v ∧ V i v ∧ M (also L i) (yielding (got ops a) i v) w') Q := by
  unfold Oper.wp
  rw [hrun, Oper.upon_enter]
  refine hc.mono ?_
  rintro e w' ⟨v, rfl, hr⟩
  exact ⟨v, rfl, hr⟩
end
end
section
/- A lane in memory: one block, the bytes that it keeps, the disk beneath it; its quiet calls. -/
open Go.RowKit
set_option maxRecDepth 20000
set_option linter.unusedSimpArgs false
set_option linter.unusedVariables false

/-- A lane, as data. -/
structure Ln where
  r : Nat
  bank : Nat
  gen : Nat
  first : Nat
  kept : List UInt8
  sure : Nat
  astray : Bool
def Ln.len (l : Ln) : Nat := l.first * 56 + l.kept.length
def Ln.nsec (l : Ln) : Nat := (l.kept.length + 55) / 56
def Ln.sec (l : Ln) (i : Nat) : Nat := 2 + l.bank * 256 + i
/-- What a lane is within. -/
structure Ln.Fit (l : Ln) : Prop where
  r : l.r < 64
  bank : l.bank ≤ 1
  gen : l.gen ≤ 1000000
  len : l.len ≤ 14336
/-- Its cells. -/
def Ln.cells (l : Ln) (dg : Nat) (kv : Value) : Array Value := #[ptr dg, .int .i64 (l.r : Int), .int .i64 (l.bank : Int), .int .u64 (l.gen : Int), .int .i64 (l.first : Int), kv, .int .i64 (l.sure : Int), .bool l.astray]
/-- The block that a slice lies in. -/
def blkOf : Value → Option Nat
  | .slice (some a) _ _ => some a.block
  | _ => none
/-- The bytes kept: a slice that is full, or a row of its own. -/
def Kp (w : World) (v : Value) (l : List UInt8) : Prop := ∃ A c, v = .slice A l.length c ∧ Rd w v (u8s l) ∧ (c = l.length ∨ Mine w 0 v l)
/-- The blocks that no call of the disk's turns. -/
def LX (X : Nat → Prop) (g : Nat) (kv : Value) : Nat → Prop := fun k => X k ∨ k = g ∨ blkOf kv = some k
theorem Kp.below {w w' : World} {v : Value} {l : List UInt8} (h : Kp w v l) (hb : Below w.heap.size w w') : Kp w' v l := by
  obtain ⟨A, c, e, h1, h2⟩ := h
  refine ⟨A, c, e, h1.below hb, h2.imp id fun hm => ?_⟩
  unfold Mine at hm ⊢
  exact World.ownsRow.kept (row := none) hm ⟨hb.os, hb.tape, hb.output, hb.size, fun k hk _ => hb.block k hk⟩ (by
    cases hv : v.ownBlock with
    | none => exact .inl rfl
    | some k => exact .inr (by simp))
theorem Many.out {w w' : World} {X : Nat → Prop} {l : List (Nat × Ds)} (h : Many w X l) {k : Nat} (hk : X k) : k < w.heap.size := h.1 k hk
/-- Of blocks of X' nothing has turned; so the reading of what is kept stays. -/
theorem Kp.out {w w' : World} {X : Nat → Prop} {v : Value} {l : List UInt8} (h : Kp w v l) (ho : Out X w w') (hx : ∀ k, blkOf v = some k → X k) : Kp w' v l := by
  obtain ⟨A, c, e, h1, h2⟩ := h
  have hcell : ∀ p : Addr, A.map (·.block) = some p.block → p.block < w.heap.size → w'.cell? p = w.cell? p := fun p hp hlt => Kept.cell ho hlt (fun hn => hn (hx _ (by
    subst e
    cases A with
    | none => cases hp
    | some a => simpa [blkOf] using hp)))
  refine ⟨A, c, e, ?_, h2.imp id fun hm => ?_⟩
  · obtain ⟨A', c', e', hc, hr⟩ := h1
    subst e
    injection e' with e1 e2 e3
    subst e1 e3
    refine ⟨A, c, by rw [← e2], hc, fun hn => ?_⟩
    obtain ⟨b, o, rfl, hb, hh⟩ := hr hn
    exact ⟨b, o, rfl, Nat.lt_of_lt_of_le hb ho.size, fun j u hu => (hcell ⟨b, o + j, none⟩ rfl hb).trans (hh j u hu)⟩
  · unfold Mine at hm ⊢
    refine Kept.own ho hm (fun k hk hn => hn (hx k ?_))
    subst e
    unfold Value.ownBlock at hk
    unfold blkOf
    revert hk
    cases A <;> simp
section
variable {w w' : World} {X : Nat → Prop} {dg : Nat} {d d' : Ds} {g : Nat} {l l' : Ln} {kv : Value}
theorem Out.less {X Y : Nat → Prop} {a b : World} (h : Out Y a b) (hs : ∀ k, X k → Y k) : Out X a b := Kept.mono h (fun k hk => .inl (fun hx => hk (hs k hx)))
theorem LX.sub {k : Nat} (h : X k) : LX X g kv k := .inl h
theorem below_drewN (w : World) (k : Nat) : Below w.heap.size w (w.drewN k) := ⟨rfl, rfl, rfl, Nat.le_refl _, fun _ _ => rfl⟩

theorem ret_int {a b : Int} {k : IntKind} (h : a = b) : Ending.returned (.int k a) = Ending.returned (.int k b) := by rw [h]
end
end
section
/- Contracts: a lane's read, write. -/
open Go.RowKit
set_option maxRecDepth 20000
set_option linter.unusedSimpArgs false
set_option linter.unusedVariables false

/-- A sector's bytes, and no error. -/
def Say.two (b : Sec) : Say := ⟨fun w v => ∃ A c, v = .tuple #[.slice A 64 c, .int .i64 0] ∧ Rd w (.slice A 64 c) (u8s b), fun _ _ _ ⟨A, c, e, h⟩ hb => ⟨A, c, e, h.below hb⟩⟩
theorem read_two {w : World} {Y : Nat → Prop} {dg : Nat} {d : Ds} {r s : Int} {b : Sec} (h : Many w Y [(dg, d)]) (hn : d.rd? r s = some b) :
    Calls Try.prog 14 #[ptr dg, .int .i64 r, .int .i64 s] w fun e w' => ∃ v, e = .returned v ∧ (Say.two b).p w' v ∧ Below w.heap.size w w' := by
  refine (read_many (i := 0) h rfl r s hn).mono ?_
  rintro e w' ⟨rfl, hl, hb, _, hbl⟩
  exact ⟨_, rfl, ⟨_, _, rfl, hb.rd8 hl.symm (Nat.le_refl _)⟩, hbl⟩

end
section
/- A bank's sectors and the bytes that they stand for (plain data; nothing of the program). -/
open Go.RowKit
set_option maxRecDepth 20000

/-- The bytes that sector i of a stream has. -/
def chunk (F : List UInt8) (i : Nat) : List UInt8 := (F.drop (56 * i)).take 56
/-- What is written of them. -/
def secRaw (gen : Nat) (b : List UInt8) : List UInt8 := be 4 gen ++ ([UInt8.ofNat b.length] ++ ([0, 0, 0] ++ b))
def secOf (gen : Nat) (b : List UInt8) : Sec := pad (secRaw gen b)
/-- The generation that a sector tells. -/
def gn (s : Sec) : Nat := val (s.take 4)
/-- The bytes of a sector. -/
def ld (gen : Nat) (s : Sec) : List UInt8 := if gn s = gen then (if (s.getD 4 0).toNat ≤ 56 then (s.drop 8).take (s.getD 4 0).toNat else []) else []
/-- The stream of a bank. -/
def strm (gen : Nat) : List Sec → List UInt8
  | [] => []
  | s :: ss => if (ld gen s).length < 56 then ld gen s else ld gen s ++ strm gen ss

theorem secRaw_length (gen : Nat) (b : List UInt8) : (secRaw gen b).length = 8 + b.length := by
  simp [secRaw, be_length]
  omega
theorem secOf_length (gen : Nat) (b : List UInt8) (h : b.length ≤ 56) : (secOf gen b).length = 64 := pad_length _ (by rw [secRaw_length]; omega)
theorem secOf_eq (gen : Nat) (b : List UInt8) : secOf gen b = be 4 gen ++ ([UInt8.ofNat b.length] ++ ([0, 0, 0] ++ (b ++ List.replicate (56 - b.length) 0))) := by
  unfold secOf pad
  rw [secRaw_length]
  simp only [secRaw, List.append_assoc]
  congr 5
  omega
theorem take_be (n x : Nat) (l : List UInt8) : (be n x ++ l).take n = be n x := by
  conv => lhs; rw [show n = (be n x).length from (be_length n x).symm]
  rw [be_length]
  conv => lhs; arg 1; rw [← be_length n x]
  exact List.take_left
theorem gn_secOf (gen : Nat) (b : List UInt8) (hg : gen < 4294967296) : gn (secOf gen b) = gen := by
  unfold gn
  rw [secOf_eq, take_be, val_be]
  omega
theorem gn_zsec : gn zsec = 0 := by decide
theorem getD_secOf (gen : Nat) (b : List UInt8) : (secOf gen b).getD 4 0 = UInt8.ofNat b.length := by
  rw [secOf_eq, List.getD_eq_getElem?_getD, List.getElem?_append_right (by rw [be_length]; omega), be_length]
  rfl
theorem drop_secOf (gen : Nat) (b : List UInt8) : (secOf gen b).drop 8 = b ++ List.replicate (56 - b.length) 0 := by
  rw [secOf_eq]
  rw [show (8 : Nat) = (be 4 gen).length + 4 by rw [be_length], List.drop_append]
  rfl
theorem ld_secOf (gen : Nat) (b : List UInt8) (hg : gen < 4294967296) (hb : b.length ≤ 56) : ld gen (secOf gen b) = b := by
  unfold ld
  rw [if_pos (gn_secOf gen b hg), getD_secOf, UInt8.toNat_ofNat', Nat.mod_eq_of_lt (by omega), if_pos hb, drop_secOf]
  exact List.take_left
theorem ld_other (gen : Nat) (s : Sec) (h : gn s ≠ gen) : ld gen s = [] := by unfold ld; rw [if_neg h]
theorem ld_le (gen : Nat) (s : Sec) : (ld gen s).length ≤ 56 := by
  unfold ld
  split
  · split
    · rw [List.length_take]; omega
    · simp
  · simp
theorem strm_le (gen : Nat) (B : List Sec) : (strm gen B).length ≤ 56 * B.length := by
  induction B with
  | nil => simp [strm]
  | cons s B ih =>
    have := ld_le gen s
    unfold strm
    rw [List.length_cons]
    split
    · omega
    · rw [List.length_append]; omega

theorem chunk_le (F : List UInt8) (i : Nat) : (chunk F i).length ≤ 56 := by unfold chunk; rw [List.length_take]; omega
theorem chunk_length (F : List UInt8) (i : Nat) : (chunk F i).length = min 56 (F.length - 56 * i) := by unfold chunk; rw [List.length_take, List.length_drop]
theorem chunk_succ (F : List UInt8) (i : Nat) : chunk F (i + 1) = chunk (F.drop 56) i := by
  unfold chunk
  rw [List.drop_drop, show 56 * (i + 1) = 56 + 56 * i by omega]
theorem chunk_zero (F : List UInt8) : chunk F 0 = F.take 56 := rfl
theorem chunk_drop (F : List UInt8) (i j : Nat) : chunk (F.drop (56 * j)) i = chunk F (j + i) := by
  unfold chunk
  rw [List.drop_drop, show 56 * (j + i) = 56 * j + 56 * i by omega]
/-- Of a beginning. -/
theorem chunk_take (F : List UInt8) (m i : Nat) : chunk (F.take m) i = (chunk F i).take (m - 56 * i) := by
  unfold chunk
  rw [List.drop_take, List.take_take, List.take_take, Nat.min_comm]
theorem chunk_full (F : List UInt8) (m i : Nat) (h : 56 * (i + 1) ≤ m) : chunk (F.take m) i = chunk F i := by
  rw [chunk_take, List.take_of_length_le]
  have := chunk_le F i
  omega

/-- A bank that has just these bytes, and nothing of that generation behind. -/
def Holds (gen : Nat) (B : List Sec) (F : List UInt8) : Prop := ∀ i s, B[i]? = some s → if 56 * i < F.length then s = secOf gen (chunk F i) else gn s ≠ gen
/-- A bank whose stream is these bytes. -/
def Good (gen : Nat) (B : List Sec) (F : List UInt8) : Prop := strm gen B = F ∧ ∀ i s, B[i]? = some s → 56 * i < F.length → s = secOf gen (chunk F i)
/-- A bank whose sectors are those of F' or of F. -/
def Mixed (gen : Nat) (B : List Sec) (F F' : List UInt8) : Prop :=
  ∀ i s, B[i]? = some s → (s = secOf gen (chunk F' i) ∧ 56 * i < F'.length) ∨ (if 56 * i < F.length then s = secOf gen (chunk F i) else gn s ≠ gen)
theorem Holds.mixed {gen : Nat} {B : List Sec} {F F' : List UInt8} (h : Holds gen B F) : Mixed gen B F F' := fun i s hs => .inr (h i s hs)

theorem Mixed.good {gen : Nat} (hg : gen < 4294967296) : ∀ {B : List Sec} {F F' : List UInt8}, Mixed gen B F F' → F <+: F' → F'.length ≤ 56 * B.length → ∃ m, F.length ≤ m ∧ m ≤ F'.length ∧ Good gen B (F'.take m)
  | [], F, F', _, hp, hl => ⟨0, by have := hp.length_le; rw [List.length_nil] at hl; omega, Nat.zero_le _, by simp [strm], fun i s hs => by simp at hs⟩
  | s :: B, F, F', h, hp, hl => by
    have h0 := h 0 s rfl
    rw [Nat.mul_zero] at h0
    -- the first sector is full
    have full : 56 ≤ F'.length → s = secOf gen (F'.take 56) → ∃ m, F.length ≤ m ∧ m ≤ F'.length ∧ Good gen (s :: B) (F'.take m) := by
      intro h56 hs
      have hm : Mixed gen B (F.drop 56) (F'.drop 56) := by
        intro i u hu
        have := h (i + 1) u (by simpa using hu)
        rw [chunk_succ, chunk_succ] at this
        rw [List.length_drop, List.length_drop]
        rcases this with ⟨h1, h2⟩ | h1
        · exact .inl ⟨h1, by omega⟩
        · right
          split at h1
          · rw [if_pos (by omega)]; exact h1
          · rw [if_neg (by omega)]; exact h1
      obtain ⟨t, rfl⟩ := hp
      obtain ⟨m, h1, h2, h3, h4⟩ := Mixed.good hg hm (by rw [List.drop_append]; exact List.prefix_append _ _) (by rw [List.length_drop]; rw [List.length_cons] at hl; omega)
      rw [List.length_drop] at h1 h2
      have hl56 : (List.take 56 (F ++ t)).length = 56 := by rw [List.length_take]; omega
      have hld : ld gen s = (F ++ t).take 56 := by rw [hs, ld_secOf gen _ hg (by omega)]
      have e : (F ++ t).take (56 + m) = (F ++ t).take 56 ++ ((F ++ t).drop 56).take m := by rw [List.take_add]
      refine ⟨56 + m, by omega, by omega, ?_, ?_⟩
      · unfold strm
        rw [hld, if_neg (by omega), h3, e]
      · intro i u hu hi
        cases i with
        | zero =>
          obtain rfl : s = u := by simpa using hu
          rw [hs, chunk_zero, List.take_take, Nat.min_eq_left (by omega)]
        | succ i =>
          have hu' : B[i]? = some u := by simpa using hu
          rw [List.length_take] at hi
          rw [h4 i u hu' (by rw [List.length_take, List.length_drop]; omega), chunk_succ]
          congr 2
          rw [List.drop_take, Nat.add_sub_cancel_left]
    rcases h0 with ⟨hs, hpos⟩ | h0
    · rw [chunk_zero] at hs
      rcases Nat.lt_or_ge F'.length 56 with h56 | h56
      · have e : F'.take 56 = F' := List.take_of_length_le (by omega)
        rw [e] at hs
        have hld : ld gen s = F' := by rw [hs, ld_secOf gen _ hg (by omega)]
        refine ⟨F'.length, hp.length_le, Nat.le_refl _, ?_⟩
        rw [List.take_length]
        refine ⟨?_, fun i u hu hi => ?_⟩
        · unfold strm
          rw [hld, if_pos h56]
        · obtain rfl : i = 0 := by omega
          obtain rfl : s = u := by simpa using hu
          rw [hs, chunk_zero, e]
      · exact full h56 hs
    · split at h0
      · rename_i hpos
        rw [chunk_zero] at h0
        rcases Nat.lt_or_ge F.length 56 with h56 | h56
        · have e : F.take 56 = F := List.take_of_length_le (by omega)
          rw [e] at h0
          have hld : ld gen s = F := by rw [h0, ld_secOf gen _ hg (by omega)]
          obtain ⟨t, rfl⟩ := hp
          refine ⟨F.length, Nat.le_refl _, by simp, ?_⟩
          rw [List.take_left]
          refine ⟨?_, fun i u hu hi => ?_⟩
          · unfold strm
            rw [hld, if_pos h56]
          · obtain rfl : i = 0 := by omega
            obtain rfl : s = u := by simpa using hu
            rw [h0, chunk_zero, e]
        · refine full (Nat.le_trans h56 hp.length_le) ?_
          obtain ⟨t, rfl⟩ := hp
          rw [h0, List.take_append_of_le_length (by omega)]
      · refine ⟨0, by omega, Nat.zero_le _, ?_⟩
        rw [List.take_zero]
        refine ⟨?_, fun i u hu hi => absurd hi (by simp)⟩
        unfold strm
        rw [ld_other gen s h0, if_pos (by simp)]
theorem Holds.good {gen : Nat} {B : List Sec} {F : List UInt8} (hg : gen < 4294967296) (h : Holds gen B F) (hl : F.length ≤ 56 * B.length) : Good gen B F := by
  obtain ⟨m, h1, h2, h3⟩ := Mixed.good hg (h.mixed (F' := F)) (List.prefix_refl _) hl
  obtain rfl : m = F.length := by omega
  rwa [List.take_length] at h3
/-- What opening leaves: the stream cut at e, written anew where it was cut, all behind of that generation wiped. -/
theorem Good.mend {gen e : Nat} {B B' : List Sec} {G : List UInt8} (h : Good gen B G) (he : e ≤ G.length) (hg : 0 < gen)
    (hB : ∀ i s, B'[i]? = some s → ∃ u, B[i]? = some u ∧ (if e ≤ 56 * i then (if gn u = gen then s = zsec else s = u) else if e < G.length ∧ e < 56 * (i + 1) then s = secOf gen (chunk (G.take e) i) else s = u)) : Holds gen B' (G.take e) := by
  intro i s hs
  obtain ⟨u, hu, hc⟩ := hB i s hs
  rw [List.length_take, Nat.min_eq_left he]
  by_cases h1 : e ≤ 56 * i
  · rw [if_pos h1] at hc
    rw [if_neg (by omega)]
    split at hc
    · rw [hc, gn_zsec]; omega
    · rename_i hn
      rw [hc]; exact hn
  · rw [if_neg h1] at hc
    rw [if_pos (by omega)]
    split at hc
    · exact hc
    · rename_i hn
      rw [hc, h.2 i u hu (by omega)]
      congr 1
      rcases Nat.lt_or_ge e G.length with h2 | h2
      · exact (chunk_full G e i (by omega)).symm
      · obtain rfl : e = G.length := by omega
        rw [List.take_length]
/-- What writing leaves: sectors of F' from the first one on that F doesn't fill. -/
theorem Holds.written {gen : Nat} {B B' : List Sec} {F F' : List UInt8} (h : Holds gen B F) (hp : F <+: F')
    (hB : ∀ i s, B'[i]? = some s → (s = secOf gen (chunk F' i) ∧ 56 * i < F'.length) ∨ B[i]? = some s ∧ (56 * (i + 1) ≤ F.length ∨ F'.length ≤ 56 * i)) : Holds gen B' F' := by
  intro i s hs
  rcases hB i s hs with ⟨h1, h2⟩ | ⟨h1, h2⟩
  · rw [if_pos h2]; exact h1
  · have h3 := h i s h1
    have hl := hp.length_le
    rcases h2 with h2 | h2
    · rw [if_pos (by omega)] at h3
      rw [if_pos (by omega), h3]
      congr 1
      obtain ⟨t, rfl⟩ := hp
      unfold chunk
      rw [List.drop_append_of_le_length (by omega), List.take_append_of_le_length (by rw [List.length_drop]; omega)]
    · rw [if_neg (by omega)] at h3
      rw [if_neg (by omega)]; exact h3
end
section
/- What a lane does to its region, as lists of writes and barriers; what a disk is behind it (plain data). -/
open Go.RowKit
set_option maxRecDepth 20000
set_option linter.unusedSimpArgs false
set_option linter.unusedVariables false

inductive Do where
  | w (s : Nat) (b : Sec)
  | bar
def Rg.go1 (g : Rg) : Do → Rg
  | .w s b => g.write s b
  | .bar => g.barrier
/-- One by one, till the region is down. -/
def Rg.run : Rg → List Do → Rg × Bool
  | g, [] => (g, true)
  | g, o :: os => if g.down then (g, false) else (g.go1 o).run os
def Rg.goes (g : Rg) (os : List Do) : Rg := os.foldl Rg.go1 g
/-- The error's number. -/
def cd (b : Bool) : Int := if b then 0 else 10
theorem run_nil (g : Rg) : g.run [] = (g, true) := rfl
theorem run_cons (g : Rg) (o : Do) (os : List Do) : g.run (o :: os) = if g.down then (g, false) else (g.go1 o).run os := rfl
theorem run_one (g : Rg) (o : Do) : g.run [o] = if g.down then (g, false) else (g.go1 o, true) := rfl
theorem run_append (a b : List Do) : ∀ g : Rg, g.run (a ++ b) = if (g.run a).2 then (g.run a).1.run b else g.run a := by
  induction a with
  | nil => intro g; rfl
  | cons o a ih =>
    intro g
    rw [List.cons_append, run_cons, run_cons]
    split
    · rfl
    · exact ih _
theorem run_yes {g g' : Rg} {a : List Do} (h : g.run a = (g', true)) (b : List Do) : g.run (a ++ b) = g'.run b := by rw [run_append, h]; rfl
theorem run_no {g g' : Rg} {a : List Do} (h : g.run a = (g', false)) (b : List Do) : g.run (a ++ b) = (g', false) := by rw [run_append, h]; rfl
/-- What was done is a beginning; all of it, if it went well; else the region is down. -/
theorem run_goes : ∀ (os : List Do) (g : Rg), ∃ k, k ≤ os.length ∧ (g.run os).1 = g.goes (os.take k) ∧ ((g.run os).2 = true → k = os.length) ∧ ((g.run os).2 = false → k < os.length ∧ (g.goes (os.take k)).down = true)
  | [], g => ⟨0, Nat.le_refl _, rfl, fun _ => rfl, fun h => (by cases h)⟩
  | o :: os, g => by
    rw [run_cons]
    split
    · rename_i hd
      exact ⟨0, Nat.zero_le _, rfl, fun h => (by cases h), fun _ => ⟨by simp, hd⟩⟩
    · obtain ⟨k, h1, h2, h3, h4⟩ := run_goes os (g.go1 o)
      refine ⟨k + 1, by simpa using h1, by rw [h2]; rfl, fun h => by rw [h3 h]; rfl, fun h => ?_⟩
      obtain ⟨h5, h6⟩ := h4 h
      exact ⟨by simpa using h5, h6⟩
theorem run_ok {g : Rg} {os : List Do} (h : (g.run os).2 = true) : (g.run os).1 = g.goes os := by
  obtain ⟨k, h1, h2, h3, _⟩ := run_goes os g
  rw [h2, h3 h, List.take_length]
/-- Where nothing is armed all goes well. -/
theorem run_up : ∀ (os : List Do) (g : Rg), g.armed = false → (g.run os).2 = true ∧ (g.run os).1.armed = false
  | [], g, h => ⟨rfl, h⟩
  | o :: os, g, h => by
    have hd : g.down = false := by simp [Rg.down, h]
    rw [run_cons, hd]
    refine run_up os _ ?_
    cases o <;> exact h
/-- What an operation is within. -/
def Do.Fit (n : Nat) : Do → Prop
  | .w s b => s < n ∧ b.length = 64
  | .bar => True
theorem go1_fit {n : Nat} {g : Rg} {o : Do} (h : g.Fit n) (ho : o.Fit n) : (g.go1 o).Fit n := by
  cases o with
  | w s b => exact h.write ho.1 ho.2
  | bar => exact h.barrier
theorem run_fit {n : Nat} : ∀ (os : List Do) (g : Rg), g.Fit n → (∀ o ∈ os, o.Fit n) → (g.run os).1.Fit n
  | [], _, h, _ => h
  | o :: os, g, h, ho => by
    rw [run_cons]
    split
    · exact h
    · exact run_fit os _ (go1_fit h (ho o (List.mem_cons_self ..))) (fun x hx => ho x (List.mem_cons_of_mem _ hx))

/-! ### The disk's region. -/
structure DIs (d : Ds) (r : Nat) (g : Rg) (k : Nat) : Prop where
  at_ : d.regs[r]? = some g
  size : 514 ≤ d.size
  fit : g.Fit d.size
  small : Small d k
structure Next (d : Ds) (r : Nat) (g : Rg) (k : Nat) (d' : Ds) : Prop where
  is : DIs d' r g k
  regs : d'.regs = d.regs.set r g
  same : d'.size = d.size
theorem DIs.more {d : Ds} {r : Nat} {g : Rg} {k k' : Nat} (h : DIs d r g k) (hk : k ≤ k') : DIs d r g k' := ⟨h.at_, h.size, h.fit, h.small.more hk⟩
theorem DIs.at {d : Ds} {r : Nat} {g : Rg} {k : Nat} (h : DIs d r g k) : d.at? (r : Int) = some g := by rw [at_nat]; exact h.at_
theorem DIs.next {d : Ds} {r : Nat} {g : Rg} {k : Nat} (h : DIs d r g k) : Next d r g k d := ⟨h, (set_same h.at_).symm, rfl⟩
theorem Next.trans {d d' d'' : Ds} {r : Nat} {g g' : Rg} {k k' : Nat} (h : Next d r g k d') (h' : Next d' r g' k' d'') : Next d r g' k' d'' := ⟨h'.is, by rw [h'.regs, h.regs, List.set_set], h'.same.trans h.same⟩
theorem Next.more {d d' : Ds} {r : Nat} {g : Rg} {k k' : Nat} (h : Next d r g k d') (hk : k ≤ k') : Next d r g k' d' := ⟨h.is.more hk, h.regs, h.same⟩
theorem DIs.rd {d : Ds} {r : Nat} {g : Rg} {k : Nat} (h : DIs d r g k) {s : Nat} (hs : s < d.size) : ∃ b, d.rd? (r : Int) (s : Int) = some b ∧ g.secs[s]? = some b ∧ b.length = 64 := by
  have hl := h.fit.secs_length
  refine ⟨g.secs[s]'(by omega), ?_, List.getElem?_eq_getElem _, h.fit.secs_full _ (List.getElem_mem _)⟩
  rw [rd_some h.at (by omega) (by omega), Int.toNat_natCast]
  exact List.getElem?_eq_getElem _
theorem DIs.write {d : Ds} {r : Nat} {g : Rg} {k : Nat} (h : DIs d r g k) {s : Nat} (hs : s < d.size) {b : List UInt8} (hb : b.length ≤ 64) :
    d.wrCode (r : Int) (s : Int) b.length = cd (g.run [.w s (pad b)]).2 ∧ Next d r (g.run [.w s (pad b)]).1 (k + 1) (d.wr (r : Int) (s : Int) b) := by
  rw [run_one]
  have hsm := h.small.wr (r : Int) (s : Int) b
  cases hd : g.down
  · obtain ⟨h1, h2⟩ := wr_ok (b := b) h.at (s := (s : Int)) (by omega) (by omega) hb hd
    rw [h1, h2]
    rw [h2] at hsm
    rw [Int.toNat_natCast, Int.toNat_natCast] at hsm ⊢
    have hr : r < d.regs.length := (List.getElem?_eq_some_iff.1 h.at_).1
    exact ⟨rfl, ⟨by show (d.regs.set r _)[r]? = _; rw [List.getElem?_set_self hr]; rfl, h.size, h.fit.write hs (pad_length _ hb), hsm⟩, rfl, rfl⟩
  · obtain ⟨h1, h2⟩ := wr_dn (b := b) h.at (s := (s : Int)) (by omega) (by omega) hb hd
    rw [h1, h2]
    exact ⟨rfl, h.next.more (by omega)⟩
theorem DIs.bar {d : Ds} {r : Nat} {g : Rg} {k : Nat} (h : DIs d r g k) : d.brCode (r : Int) = cd (g.run [.bar]).2 ∧ Next d r (g.run [.bar]).1 k (d.br (r : Int)) := by
  rw [run_one]
  have hsm := h.small.br (r : Int)
  unfold Ds.brCode Ds.br at *
  rw [h.at] at hsm ⊢
  simp only at hsm ⊢
  cases hd : g.down
  · rw [hd] at hsm
    simp only [Bool.false_eq_true, if_false] at hsm ⊢
    rw [Int.toNat_natCast] at hsm ⊢
    have hr : r < d.regs.length := (List.getElem?_eq_some_iff.1 h.at_).1
    exact ⟨rfl, ⟨by show (d.regs.set r _)[r]? = _; rw [List.getElem?_set_self hr]; rfl, h.size, h.fit.barrier, hsm⟩, rfl, rfl⟩
  · exact ⟨rfl, h.next⟩

/-! ### What the lane's calls do. -/
def headRaw (l : Ln) : List UInt8 := be 4 l.gen ++ [UInt8.ofNat l.bank]
def headD (l : Ln) : Do := .w 1 (pad (headRaw l))
def keptD1 (l : Ln) (i : Nat) : Do := .w (l.sec (l.first + i)) (secOf l.gen (chunk l.kept i))
def keptD (l : Ln) : List Do := (List.range l.nsec).map (keptD1 l)
/-- The sectors from the n-th on that tell its generation. -/
def cleanD (l : Ln) (S : List Sec) (n : Nat) : List Do := ((List.range' n (256 - n)).filter fun i => decide (gn (S.getD (l.sec i) zsec) = l.gen)).map fun i => .w (l.sec i) zsec

theorem keptD_take (l : Ln) (j : Nat) (h : j < l.nsec) : (keptD l).take (j + 1) = (keptD l).take j ++ [keptD1 l j] := by
  unfold keptD
  have hl : j < ((List.range l.nsec).map (keptD1 l)).length := by simpa using h
  rw [List.take_succ_eq_append_getElem hl]
  simp
theorem keptD_length (l : Ln) : (keptD l).length = l.nsec := by simp [keptD]

section
variable {w : World} {X : Nat → Prop} {dg : Nat} {d : Ds} {g : Nat} {l : Ln} {kv : Value} {gr : Rg} {k : Nat}
theorem sec_lt (hf : l.Fit) (hd : DIs d l.r gr k) {j : Nat} (hj : j < 256) : l.sec j < d.size := by
  have := hf.bank
  have := hd.size
  unfold Ln.sec
  omega
end
end
section
/- Cuts of slices with a room of their own; the lesser of two numbers. -/
open Go.RowKit
set_option maxRecDepth 20000
set_option linter.unusedSimpArgs false
set_option linter.unusedVariables false

theorem run_cut (A : Option Addr) (n c l h m : Nat) (h1 : l ≤ h) (h2 : h ≤ m) (h3 : m ≤ c) (w : World) :
    (Instr.slice 31 (.slice A n c) (some (.int .i64 (l : Int))) (some (.int .i64 (h : Int))) (some (.int .i64 (m : Int)))).run Try.prog w = .ok (.slice (hiA A m l) (h - l) (m - l)) w := by
  rw [run_slice_lhm w 31 A n c slice8 .i64 .i64 .i64 l h m (by omega) (by omega) (by omega) (by omega), size8]
  simp [Result.andThen, sliced, hiA]
theorem exec_cut {o : Oper} {a : Act} {w : World} {x y z u : Operand} {A : Option Addr} {n c : Nat} (l h m : Nat) (ho : o.op = .slice 31 x (some y) (some z) (some u)) (hx : a.eval x = .slice A n c)
    (hy : a.eval y = .int .i64 (l : Int)) (hz : a.eval z = .int .i64 (h : Int)) (hu : a.eval u = .int .i64 (m : Int)) (h1 : l ≤ h) (h2 : h ≤ m) (h3 : m ≤ c) :
    (execOp a.eval o).run Try.prog w = .ok (.value (.slice (hiA A m l) (h - l) (m - l))) w := by
  have hr := run_cut A n c l h m h1 h2 h3 w
  unfold execOp
  simp only [ho, hx, hy, hz, hu, Option.map_some, Sem.run_bind, run_sliceAt_slice (P := Try.prog) (w := w) (h := slice8), hr, Result.andThen_ok, Sem.run_pure]
theorem Row.cut {w : World} {B : Nat} {A : Option Addr} {n c l h m : Nat} {xs : List Value} (hr : Row w B (.slice A n c) xs) (h1 : l ≤ h) (h2 : h ≤ m) (h3 : m ≤ c) (h4 : h ≤ n) : Row w B (.slice (hiA A m l) (h - l) (m - l)) ((xs.drop l).take (h - l)) := by
  obtain ⟨A', c', he, hc, hcell⟩ := hr
  injection he with e1 e2 e3
  subst e1 e2 e3
  have hl : ((xs.drop l).take (h - l)).length = h - l := by rw [List.length_take, List.length_drop]; omega
  refine ⟨_, _, by rw [hl], by omega, fun hn => ?_⟩
  obtain ⟨b, o, rfl, hb, hcell⟩ := hcell (by omega)
  refine ⟨b, o + l, ?_, hb, fun j u hu => ?_⟩
  · unfold hiA
    rw [if_neg (by omega)]
    simp [Addr.add]
  · rw [List.getElem?_take] at hu
    split at hu
    · rw [show o + l + j = o + (l + j) by omega]
      exact hcell (l + j) u (by rw [← hu, List.getElem?_drop])
    · cases hu
theorem Rd.cut {w : World} {A : Option Addr} {n c l h m : Nat} {xs : List UInt8} (hr : Rd w (.slice A n c) (u8s xs)) (h1 : l ≤ h) (h2 : h ≤ m) (h3 : m ≤ c) (h4 : h ≤ n) : Rd w (.slice (hiA A m l) (h - l) (m - l)) (u8s ((xs.drop l).take (h - l))) := by
  rw [u8s_take, u8s_drop]; exact Row.cut hr h1 h2 h3 h4
theorem wpList_min {P : Program} {ops : Array Oper} {rest : List Oper} {o : Oper} {a : Act} {w : World} {Q : Exit → Act → World → Prop} (x y : Operand) (m n : Int) (t : TypeId) (hgd : o.guard = none) (ho : o.op = .call { callee := .builtin .min, args := #[x, y], argTypes := #[t, t] })
    (hx : a.eval x = .int .i64 m) (hy : a.eval y = .int .i64 n) (hm : 0 ≤ m) (hn : 0 ≤ n) (h : ∀ T : Nat, (T : Int) = min m n → wpList P ops Q rest (a.put o.dst (.int .i64 (T : Int))) w) : wpList P ops Q (o :: rest) a w := by
  refine wpList_plain hgd fun K hK => ?_
  unfold Oper.wp execOp
  simp only [ho, resolve, invoke, builtin, Sem.run_bind, Sem.run_pure, Result.andThen_ok, List.map_toArray, List.map_cons, List.map_nil, hx, hy, run_min_int2]
  have h1 : ((min m n).toNat : Int) = min m n := by omega
  by_cases hlt : n < m
  · rw [if_pos hlt]
    have := h (min m n).toNat h1
    rw [h1, Int.min_eq_right (by omega)] at this
    exact hK _ _ this
  · rw [if_neg hlt]
    have := h (min m n).toNat h1
    rw [h1, Int.min_eq_left (by omega)] at this
    exact hK _ _ this
end
section
/- Contracts: a lane's sectorOf, writeHead, writeKept. -/
open Go.RowKit
set_option maxRecDepth 20000
set_option linter.unusedSimpArgs false
set_option linter.unusedVariables false

theorem put_g (x : Nat) (w : World) :
    Calls Try.prog 21 #[.slice none 0 0, .int .i64 4, .int .u64 (x : Int)] w fun e w' => ∃ v', e = .returned v' ∧ Mine w' w.heap.size v' (be 4 x) ∧ Below w.heap.size w w' := put_any (.slice none 0 0) [] 4 x w (by simp) (by omega) (by omega) (Rd.nil_ _ _ _)
theorem put_b (v : Value) (l : List UInt8) (x : Nat) (w : World) (hm : l.length ≤ 1000) (hv : Rd w v (u8s l)) :
    Calls Try.prog 21 #[v, .int .i64 1, .int .u64 (x : Int)] w fun e w' => ∃ A c, e = .returned (.slice A (l.length + 1) c) ∧ Mine w' w.heap.size (.slice A (l.length + 1) c) (l ++ [UInt8.ofNat x]) ∧ Below w.heap.size w w' := by
  refine (put_1 v l x w hm hv).mono ?_
  rintro e w' ⟨v', rfl, hmn, hb⟩
  obtain ⟨A, c, rfl⟩ := hmn.form
  rw [List.length_append] at hmn ⊢
  exact ⟨A, c, rfl, hmn, hb⟩
theorem put_z (v : Value) (l : List UInt8) (w : World) (hm : l.length ≤ 1000) (hv : Rd w v (u8s l)) :
    Calls Try.prog 21 #[v, .int .i64 3, .int .u64 0] w fun e w' => ∃ v', e = .returned v' ∧ Mine w' w.heap.size v' (l ++ [0, 0, 0]) ∧ Below w.heap.size w w' := put_any v l 3 0 w (by omega) (by omega) (by omega) hv

theorem headRaw_length (l : Ln) : (headRaw l).length = 5 := by simp [headRaw, be_length]
theorem put_head {w : World} (l : Ln) {A : Option Addr} {c : Nat} (hv : Rd w (.slice A 4 c) (u8s (be 4 l.gen))) :
    Calls Try.prog 21 #[.slice A 4 c, .int .i64 1, .int .u64 (l.bank : Int)] w fun e w' => ∃ v, e = .returned v ∧ (Say.rd 5 (headRaw l)).p w' v ∧ Below w.heap.size w w' := by
  refine (put_b _ (be 4 l.gen) l.bank w (by rw [be_length]; omega) hv).mono ?_
  rintro e w' ⟨A, c, rfl, hm, hb⟩
  rw [be_length] at hm ⊢
  exact ⟨_, rfl, ⟨A, c, rfl, hm.rd⟩, hb⟩

theorem run_snoc {g g' : Rg} {a : List Do} (h : g.run a = (g', true)) (o : Do) : g.run (a ++ [o]) = g'.run [o] := run_yes h _
end
section
/- Contracts: a lane's harden, recall, Flush. -/
open Go.RowKit
set_option maxRecDepth 20000
set_option linter.unusedSimpArgs false
set_option linter.unusedVariables false

/-- One of the two. -/
def sel (b : Bool) (x y : Ln) : Ln := cond b x y
theorem sel_t (x y : Ln) : sel true x y = x := rfl
theorem sel_f (x y : Ln) : sel false x y = y := rfl
def Ln.full (l : Ln) : Nat := l.kept.length / 56
def Ln.hard (l : Ln) : Ln := ⟨l.r, l.bank, l.gen, l.first + l.full, l.kept.drop (l.full * 56), (l.kept.drop (l.full * 56)).length, false⟩
def hardD (l : Ln) : List Do := keptD l ++ [.bar]
def flushD (l : Ln) : List Do := (if l.astray then [headD l] else []) ++ hardD l
def recallD (l : Ln) : List Do := if l.astray then [headD l, .bar] else []
def Ln.setFirst (l : Ln) (f : Nat) : Ln := ⟨l.r, l.bank, l.gen, f, l.kept, l.sure, l.astray⟩
def Ln.setKept (l : Ln) (b : List UInt8) : Ln := ⟨l.r, l.bank, l.gen, l.first, b, l.sure, l.astray⟩
def Ln.setSure (l : Ln) (n : Nat) : Ln := ⟨l.r, l.bank, l.gen, l.first, l.kept, n, l.astray⟩
def Ln.setAstray (l : Ln) (b : Bool) : Ln := ⟨l.r, l.bank, l.gen, l.first, l.kept, l.sure, b⟩
theorem hard_eq (l : Ln) : (((l.setFirst (l.first + l.full)).setKept (l.kept.drop (l.full * 56))).setSure (l.kept.length - l.full * 56)).setAstray false = l.hard := by
  unfold Ln.hard Ln.setFirst Ln.setKept Ln.setSure Ln.setAstray
  rw [List.length_drop]
theorem hard_r (l : Ln) (b : Bool) : (sel b l.hard l).r = l.r := by cases b <;> rfl
theorem blkOf_hiA (A : Option Addr) (m k n c n' c' : Nat) : blkOf (.slice (hiA A m k) n c) = blkOf (.slice A n' c') := by
  unfold hiA
  split
  · cases A <;> rfl
  · cases A with
    | none => rfl
    | some a =>
      show some (a.add k).block = some a.block
      unfold Addr.add
      split <;> rfl
theorem Kp.cut {w : World} {A : Option Addr} {c : Nat} {l : List UInt8} (h : Kp w (.slice A l.length c) l) {f : Nat} (hf : f ≤ l.length) : Kp w (.slice (hiA A l.length f) (l.length - f) (l.length - f)) (l.drop f) := by
  obtain ⟨A', c', e, hr, _⟩ := h
  injection e with e1 e2 e3
  subst e1 e3
  have hc := rd_cap hr
  have := Rd.cut hr hf (Nat.le_refl _) hc (Nat.le_refl _)
  rw [List.take_of_length_le (by rw [List.length_drop]; omega)] at this
  exact ⟨_, _, by rw [List.length_drop], this, .inl (by rw [List.length_drop])⟩
section
variable {w w' : World} {X : Nat → Prop} {dg : Nat} {d : Ds} {g : Nat} {l l' : Ln} {kv kv' : Value} {gr : Rg} {k : Nat}
theorem kept_set (w : World) (g i : Nat) (u : Value) : Kept (fun k => k = g) w (w.setCell ⟨g, i, none⟩ u) := Kept.setCell w ⟨g, i, none⟩ u
theorem store_runs {o : Oper} {a : Act} {w w' : World} {R : World → Prop} (hrun : (execOp a.eval o).run Try.prog w = .ok .skip w') (hr : R w') : ∃ w', (execOp a.eval o).run Try.prog w = .ok .skip w' ∧ R w' := ⟨w', hrun, hr⟩
end

theorem run_then {g : Rg} {a b : List Do} {g1 : Rg} (h : g.run a = (g1, true)) : g.run (a ++ b) = g1.run b := run_yes h b


end
section
/- What a reader takes of a sector (plain data). -/
open Go.RowKit
set_option maxRecDepth 20000
set_option linter.unusedSimpArgs false
set_option linter.unusedVariables false

def sN (b : Sec) : Nat := (b.getD 4 0).toNat
theorem num_sec (b : Sec) (h : b.length = 64) : (⟨b, false⟩ : St).num 4 = gn b ∧ (⟨b, false⟩ : St).numSt 4 = ⟨b.drop 4, false⟩ := by
  have hc : (⟨b, false⟩ : St).can 4 = true := by simp [St.can]; omega
  exact ⟨by unfold St.num St.got; rw [if_pos (by omega), if_pos hc]; rfl, by unfold St.numSt St.take; rw [if_pos (by omega), if_pos hc]; rfl⟩
theorem num_sec1 (b : Sec) (h : b.length = 64) : (⟨b.drop 4, false⟩ : St).num 1 = sN b ∧ (⟨b.drop 4, false⟩ : St).numSt 1 = ⟨b.drop 5, false⟩ := by
  have hc : (⟨b.drop 4, false⟩ : St).can 1 = true := by simp [St.can]; omega
  refine ⟨?_, by unfold St.numSt St.take; rw [if_pos (by omega), if_pos hc]; simp⟩
  unfold St.num St.got
  rw [if_pos (by omega), if_pos hc]
  unfold sN
  show val ((b.drop 4).take 1) = _
  have e : (b.drop 4).take 1 = [b[4]'(by omega)] := by rw [List.drop_eq_getElem_cons (by omega)]; rfl
  rw [e, List.getD_eq_getElem?_getD, List.getElem?_eq_getElem (show 4 < b.length by omega), Option.getD_some]
  simp [val]
theorem take_sec3 (b : Sec) (h : b.length = 64) : (⟨b.drop 5, false⟩ : St).take 3 = ⟨b.drop 8, false⟩ := by
  have hc : (⟨b.drop 5, false⟩ : St).can 3 = true := by simp [St.can]; omega
  unfold St.take
  rw [if_pos hc]
  simp
theorem got_sec (b : Sec) (h : b.length = 64) : (⟨b.drop 8, false⟩ : St).got (sN b : Int) = if sN b ≤ 56 then (b.drop 8).take (sN b) else [] := by
  unfold St.got St.can
  simp only [Bool.not_false, Bool.true_and, List.length_drop, h]
  by_cases h1 : sN b ≤ 56
  · rw [if_pos h1, if_pos (by simp; omega), Int.toNat_natCast]
  · rw [if_neg h1, if_neg (by simp; omega)]
theorem ld_yes (gen : Nat) (b : Sec) (h : gn b = gen) : ld gen b = if sN b ≤ 56 then (b.drop 8).take (sN b) else [] := by
  unfold ld
  rw [if_pos h]
  rfl
theorem sN_lt (b : Sec) : sN b < 256 := UInt8.toNat_lt _
theorem gn_lt (b : Sec) : gn b < 4294967296 := by
  unfold gn
  have h1 := val_lt (b.take 4)
  have h2 : 256 ^ (b.take 4).length ≤ 256 ^ 4 := Nat.pow_le_pow_right (by omega) (by rw [List.length_take]; omega)
  omega
/-- The head's sector. -/
theorem pad_head (l : Ln) : pad (headRaw l) = be 4 l.gen ++ ([UInt8.ofNat l.bank] ++ List.replicate 59 0) := by
  unfold pad
  rw [show (headRaw l).length = 5 by simp [headRaw, be_length]]
  simp [headRaw]
theorem gn_head (l : Ln) (h : l.gen ≤ 1000000) : gn (pad (headRaw l)) = l.gen := by
  unfold gn
  rw [pad_head, take_be, val_be]
  omega
theorem sN_head (l : Ln) (h : l.bank ≤ 1) : sN (pad (headRaw l)) = l.bank := by
  unfold sN
  rw [pad_head, List.getD_eq_getElem?_getD, List.getElem?_append_right (by rw [be_length]; omega), be_length]
  show (UInt8.ofNat l.bank).toNat = _
  rw [UInt8.toNat_ofNat']
  omega
end
section
/- Contracts: a lane's load, clean, stream, find. -/
open Go.RowKit
set_option maxRecDepth 20000
set_option linter.unusedSimpArgs false
set_option linter.unusedVariables false

end
section
/- Contracts: a lane's clean. -/
open Go.RowKit
set_option maxRecDepth 20000
set_option linter.unusedSimpArgs false
set_option linter.unusedVariables false

theorem Rdr.lower {w : World} {lo lo' g : Nat} {s : St} (h : Rdr w lo g s) (hl : lo' ≤ lo) : Rdr w lo' g s := by
  obtain ⟨h1, A, c, h2, h3, h4⟩ := h
  exact ⟨Nat.le_trans hl h1, A, c, h2, h3, fun k hk => Nat.le_trans hl (h4 k hk)⟩
def cleanR (l : Ln) (S : List Sec) (n j : Nat) : List Do := ((List.range' n (j - n)).filter fun i => decide (gn (S.getD (l.sec i) zsec) = l.gen)).map fun i => .w (l.sec i) zsec
theorem cleanR_all (l : Ln) (S : List Sec) (n : Nat) : cleanR l S n 256 = cleanD l S n := rfl
theorem cleanR_start (l : Ln) (S : List Sec) (n : Nat) : cleanR l S n n = [] := by simp [cleanR]
theorem cleanR_snoc (l : Ln) (S : List Sec) (n j : Nat) (h : n ≤ j) : cleanR l S n (j + 1) = cleanR l S n j ++ if gn (S.getD (l.sec j) zsec) = l.gen then [.w (l.sec j) zsec] else [] := by
  unfold cleanR
  rw [show j + 1 - n = (j - n) + 1 by omega, List.range'_concat, List.filter_append, List.map_append]
  congr 1
  rw [show n + 1 * (j - n) = j by omega]
  by_cases hg : gn (S.getD (l.sec j) zsec) = l.gen
  · rw [if_pos hg, List.filter_cons_of_pos (p := fun i => decide (gn (S.getD (l.sec i) zsec) = l.gen)) (a := j) (l := []) (decide_eq_true hg)]; rfl
  · rw [if_neg hg, List.filter_cons_of_neg (p := fun i => decide (gn (S.getD (l.sec i) zsec) = l.gen)) (a := j) (l := []) (by show ¬ decide _ = true; rw [decide_eq_true_eq]; exact hg)]; rfl
theorem cleanR_prefix (l : Ln) (S : List Sec) (n j : Nat) (h1 : n ≤ j) (h2 : j ≤ 256) : ∃ t, cleanD l S n = cleanR l S n j ++ t := by
  rw [← cleanR_all]
  have : ∀ i, ∃ t, cleanR l S n (j + i) = cleanR l S n j ++ t := by
    intro i
    induction i with
    | zero => exact ⟨[], by simp⟩
    | succ i ih =>
      obtain ⟨t, ht⟩ := ih
      exact ⟨t ++ _, by rw [← Nat.add_assoc, cleanR_snoc l S n (j + i) (by omega), ht, List.append_assoc]⟩
  have h := this (256 - j)
  rwa [show j + (256 - j) = 256 by omega] at h
/-- Sectors that aren't written are as they were. -/
def Do.off (t : Nat) : Do → Prop
  | .w s _ => s ≠ t
  | .bar => True
theorem go1_secs {g : Rg} {o : Do} {t : Nat} (h : o.off t) : (g.go1 o).secs[t]? = g.secs[t]? := by
  cases o with
  | w s b =>
    show (g.write s b).secs[t]? = _
    rw [Rg.secs_write, List.getElem?_set_ne h]
  | bar => rfl
theorem run_secs {t : Nat} : ∀ (os : List Do) (g : Rg), (∀ o ∈ os, o.off t) → (g.run os).1.secs[t]? = g.secs[t]?
  | [], _, _ => rfl
  | o :: os, g, h => by
    rw [run_cons]
    split
    · rfl
    · rw [run_secs os _ (fun x hx => h x (List.mem_cons_of_mem _ hx)), go1_secs (h o (List.mem_cons_self ..))]
theorem cleanR_off (l : Ln) (S : List Sec) (n j : Nat) : ∀ o ∈ cleanR l S n j, o.off (l.sec j) := by
  intro o ho
  unfold cleanR at ho
  rw [List.mem_map] at ho
  obtain ⟨i, hi, rfl⟩ := ho
  have := (List.mem_range'_1.1 (List.mem_filter.1 hi).1)
  show l.sec i ≠ l.sec j
  unfold Ln.sec
  omega
/-- The sectors of its bank. -/
def bankOf (S : List Sec) (bank : Nat) : List Sec := (S.drop (2 + bank * 256)).take 256
theorem bankOf_get (S : List Sec) (l : Ln) (j : Nat) (hj : j < 256) : (bankOf S l.bank)[j]? = S[l.sec j]? := by
  unfold bankOf Ln.sec
  rw [List.getElem?_take, if_pos hj, List.getElem?_drop]
theorem bankOf_length (S : List Sec) (bank : Nat) (hb : bank ≤ 1) (hs : 514 ≤ S.length) : (bankOf S bank).length = 256 := by
  unfold bankOf
  rw [List.length_take, List.length_drop]
  omega
theorem strm_step (gen : Nat) (B : List Sec) (j : Nat) (b : Sec) (h : B[j]? = some b) : strm gen (B.drop j) = if (ld gen b).length < 56 then ld gen b else ld gen b ++ strm gen (B.drop (j + 1)) := by
  obtain ⟨hj, rfl⟩ := List.getElem?_eq_some_iff.1 h
  rw [List.drop_eq_getElem_cons hj]
  rfl

end
section
/- append onto what a lane keeps. -/
open Go.RowKit
set_option maxRecDepth 20000
set_option linter.unusedSimpArgs false
set_option linter.unusedVariables false

theorem own_blk (A : Option Addr) (n c : Nat) : (Value.slice A n c).ownBlock = blkOf (.slice A n c) := by
  cases A <;> rfl
theorem Kp.of_mine {w : World} {B : Nat} {v : Value} {l : List UInt8} (h : Mine w B v l) : Kp w v l := by
  obtain ⟨A, c, rfl⟩ := h.form
  exact ⟨A, c, rfl, h.rd, .inr (h.more (Nat.zero_le _))⟩
/-- append(kept, b...), b not empty. -/
theorem run_append_kp {w : World} (ty : TypeId) {kv : Value} {l b : List UInt8} (h : Kp w kv l) {x : Value} (hx : Rd w x (u8s b)) (hb : 0 < b.length) (hlen : l.length + b.length ≤ 100000) :
    ∃ v' w', (Builtin.append_ #[31, 31] ty #[kv, x]).run Try.prog w = .ok v' w' ∧ Kp w' v' (l ++ b) ∧ Kept (fun k => blkOf kv = some k) w w' ∧ ∀ k, blkOf v' = some k → blkOf kv = some k ∨ (w.heap.size ≤ k ∧ k < w'.heap.size) := by
  obtain ⟨i0, hi, hz0, hz1, hz2⟩ := info_parts info8
  obtain ⟨A, c, rfl, hr, hc⟩ := h
  have own : Mine w 0 (.slice A l.length c) l → ∃ v' w', (Builtin.append_ #[31, 31] ty #[.slice A l.length c, x]).run Try.prog w = .ok v' w' ∧ Kp w' v' (l ++ b) ∧ Kept (fun k => blkOf (.slice A l.length c) = some k) w w' ∧ ∀ k, blkOf v' = some k → blkOf (.slice A l.length c) = some k ∨ (w.heap.size ≤ k ∧ k < w'.heap.size) := by
    intro hm
    obtain ⟨v', w', h1, h2, h3, h4⟩ := run_append_rd (P := Try.prog) (w := w) (base := 0) 31 ty 5 i0 (.int .u8 0) 1 Try.underlying31 hi hz0 hz1 hz2 rfl _ l.length (u8s l) hm x (u8s b) hx (oneCell_u8s b) (by rw [u8s_length]; unfold maxLen; omega) (by rw [u8s_length]; omega) (Nat.zero_le _)
    have hm' : Mine w' 0 v' (l ++ b) := mine_rd h2
    refine ⟨v', w', h1, Kp.of_mine hm', (Kept.of_grown h3).mono (fun k hk => .inl (by rw [← own_blk]; exact hk)), fun k hk => ?_⟩
    obtain ⟨A', c', rfl⟩ := hm'.form
    rw [← own_blk] at hk
    rcases h4 with h4 | h4
    · rw [h4, own_blk] at hk
      exact .inl hk
    · have hlt := (World.ownsRow.lt hm' k hk).2
      rw [h4] at hk
      injection hk with hk
      exact .inr ⟨by omega, hlt⟩
  rcases hc with hc | hm
  · subst hc
    obtain ⟨A', c', ex, hcx, hA'⟩ := hx
    rw [u8s_length] at ex hcx hA'
    obtain ⟨bb, bo, rfl, hbb, hcell⟩ := hA' (by omega)
    subst ex
    cases A with
    | none =>
      have h0 : l = [] := by
        rcases Nat.eq_zero_or_pos l.length with h0 | hpos
        · exact List.eq_nil_of_length_eq_zero h0
        · obtain ⟨A2, c2, e2, _, hA2⟩ := hr
          injection e2 with e2
          obtain ⟨_, _, e3, _⟩ := hA2 (by rw [u8s_length]; exact hpos)
          rw [e3] at e2
          cases e2
      subst h0
      exact own (own_nil w 0 5)
    | some a =>
      have holds : ∀ j u, (u8s l)[j]? = some u → w.cell? (a.add j) = some u := by
        intro j u hu
        obtain ⟨A2, c2, e2, _, hA2⟩ := hr
        injection e2 with e2
        obtain ⟨b2, o2, e3, _, hc2⟩ := hA2 (by have := (List.getElem?_eq_some_iff.1 hu).1; omega)
        rw [e3] at e2
        injection e2 with e2
        subst e2
        rw [addr_add]
        exact hc2 j u hu
      obtain ⟨v', w', h1, h2, h3⟩ := run_append_arg_grows (P := Try.prog) w 31 ty 5 i0 (.int .u8 0) 1 1 Try.underlying31 hi hz0 hz1 hz2 rfl (by omega) a l.length l.length (u8s l) (by rw [u8s_length]; omega) holds
        ⟨bb, bo, none⟩ b.length c' (u8s b) (by rw [u8s_length]; omega) (fun j u hu => by rw [addr_add]; exact hcell j u hu) (by omega) (by unfold maxLen; omega) (by omega)
      have hm' : Mine w' w.heap.size v' (l ++ b) := by
        unfold Mine
        rw [u8s_append, List.length_append]
        exact h2
      refine ⟨v', w', h1, Kp.of_mine hm', (Kept.of_grown h3).mono (fun k hk => by cases hk), fun k hk => ?_⟩
      obtain ⟨A', c'', rfl⟩ := hm'.form
      rw [← own_blk] at hk
      exact .inr (World.ownsRow.lt hm' k hk)
  · exact own hm
theorem wpList_append_kp {w : World} {ops : Array Oper} {rest : List Oper} {o : Oper} {a : Act} {Q : Exit → Act → World → Prop} (hgd : o.guard = none) (s y : Operand)
    (ho : o.op = .call { callee := .builtin .append, args := #[s, y], argTypes := #[31, 31] }) {kv x : Value} {l b : List UInt8} (hs : a.eval s = kv) (hk : Kp w kv l) (hy : a.eval y = x) (hx : Rd w x (u8s b)) (hb : 0 < b.length) (hlen : l.length + b.length ≤ 100000)
    (h : ∀ v' w', Kp w' v' (l ++ b) → Kept (fun k => blkOf kv = some k) w w' → (∀ k, blkOf v' = some k → blkOf kv = some k ∨ (w.heap.size ≤ k ∧ k < w'.heap.size)) → wpList Try.prog ops Q rest (a.put o.dst v') w') : wpList Try.prog ops Q (o :: rest) a w := by
  refine wpList_plain hgd fun K hK => ?_
  obtain ⟨v', w', hrun, h2, h3, h4⟩ := run_append_kp o.type hk hx hb hlen
  unfold Oper.wp execOp
  simp only [ho, resolve, invoke, builtin, Sem.run_bind, Sem.run_pure, Result.andThen_ok, List.map_toArray, List.map_cons, List.map_nil, hs, hy, hrun]
  exact hK _ _ (h v' w' h2 h3 h4)
theorem Many.turn {w w' : World} {X Y S : Nat → Prop} {l : List (Nat × Ds)} (h : Many w X l) (hk : Kept S w w') (hS : ∀ k, S k → X k ∨ w.heap.size ≤ k) (hY : ∀ k, Y k → X k ∨ (w.heap.size ≤ k ∧ k < w'.heap.size)) : Many w' Y l := by
  obtain ⟨hX, labs, h1, h2, h3, h4⟩ := h
  have hlt : ∀ i k, labs i k ≠ 0 → k < w.heap.size := fun i k hk => labs_lt labs h1 h2 hk
  refine ⟨fun k hk2 => ?_, labs, fun i x hi => (h1 i x hi).keep hk (fun k hs => ?_), h2, fun i k hl hy => ?_, h4⟩
  · rcases hY k hk2 with h5 | h5
    · exact Nat.lt_of_lt_of_le (hX k h5) hk.size
    · exact h5.2
  · by_cases hz : labs i k = 0
    · exact hz
    · rcases hS k hs with h5 | h5
      · exact absurd h5 (h3 i k hz)
      · have := hlt i k hz; omega
  · rcases hY k hy with h5 | h5
    · exact h3 i k hl h5
    · have := hlt i k hl; omega
end
section
/- A region whose order is drawn: 'append(append(append(b, x...), byte(n)), y...)': one row of the call's own that is appended to step by step, one small slice made on the way, all else only read. -/
open Go.RowKit
set_option maxRecDepth 20000

set_option linter.unusedSimpArgs false
set_option linter.unusedVariables false

theorem Mine.below {w w' : World} {base : Nat} {v : Value} {l : List UInt8} (h : Mine w base v l) (hb : Below w.heap.size w w') : Mine w' base v l := by
  refine World.ownsRow.kept (row := none) h ⟨hb.os, hb.tape, hb.output, hb.size, fun k hk _ => hb.block k hk⟩ ?_
  cases hv : v.ownBlock with
  | none => exact .inl rfl
  | some k => exact .inr fun e => by cases e
/-- A new row. -/
theorem mine_new (w : World) (l : List UInt8) (n : Nat) {cells : Array Value} {base g : Nat} (hc : cells = blk8 l) (hn : l.length = n) (hl : n ≤ 1000000) (hg : w.heap.size = g) (hb : base ≤ g) : Mine (w.alloc (.cells cells 5)) base (.slice (some ⟨g, 0, none⟩) n n) l := by
  subst hc hn hg
  refine ⟨by rw [u8s_length, Nat.mul_one], .inr ⟨w.heap.size, l.length, blk8 l, rfl, hb, heap_new w _, Nat.le_refl _, by unfold maxLen; omega, by rw [blk8_size, Nat.mul_one], ?_⟩⟩
  rw [Nat.mul_one, ← u8s_length l, blk8, List.toList_toArray, List.take_length]
/-- The row, and what it holds, by which appends have come up (the last one first). -/
def curC : List (Nat × List UInt8) → Value → List UInt8 → (Nat → Bool) → (Nat → Value) → Value × List UInt8
  | [], v0, l0, _, _ => (v0, l0)
  | x :: r, v0, l0, L, f => if L x.1 = true then (f x.1, x.2) else curC r v0 l0 L f
/-- What holds on the way. -/
def Chain (K : World → Prop) (base : Nat) (v0 : Value) (l0 : List UInt8) (ch : List (Nat × List UInt8)) (iS : Nat) (sl : List UInt8) : Phases := fun L f w =>
  K w ∧ Mine w base (curC ch v0 l0 L f).1 (curC ch v0 l0 L f).2 ∧ (L iS = true → ∃ b, f iS = .slice (some ⟨b, 0, none⟩) sl.length sl.length ∧ Blk w b 5 (blk8 sl))
def chainB (ops : Array Oper) (ch : List (Nat × List UInt8)) (iS : Nat) : Bool := (ch.all fun x => decide (x.1 < ops.size) && ((ops[x.1]?).bind (·.dst)).isSome) && (decide (iS < ops.size) && ((ops[iS]?).bind (·.dst)).isSome)
theorem has_dst {ops : Array Oper} {j : Nat} (hd : ((ops[j]?).bind (·.dst)).isSome = true) : ∃ o d, ops[j]? = some o ∧ o.dst = some d := by
  cases ho : ops[j]? with
  | none => rw [ho] at hd; simp at hd
  | some o =>
    rw [ho] at hd
    simp only [Option.bind_some] at hd
    obtain ⟨d, hd⟩ := Option.isSome_iff_exists.1 hd
    exact ⟨o, d, rfl, hd⟩
theorem curC_ext {ops : Array Oper} {v0 : Value} {l0 : List UInt8} {L L' : Nat → Bool} {f f' : Nat → Value} : ∀ {ch : List (Nat × List UInt8)}, (ch.all fun x => decide (x.1 < ops.size) && ((ops[x.1]?).bind (·.dst)).isSome) = true → (∀ j, j < ops.size → L j = L' j) →
    (∀ j, j < ops.size → L j = true → (∃ o d, ops[j]? = some o ∧ o.dst = some d) → f j = f' j) → curC ch v0 l0 L f = curC ch v0 l0 L' f'
  | [], _, _, _ => rfl
  | x :: r, hB, hL, hf => by
    simp only [List.all_cons, Bool.and_eq_true, decide_eq_true_eq] at hB
    unfold curC
    rw [← hL _ hB.1.1]
    by_cases h : L x.1 = true
    · rw [if_pos h, if_pos h, hf _ hB.1.1 h (has_dst hB.1.2)]
    · rw [if_neg h, if_neg h]
      exact curC_ext hB.2 hL hf
theorem Chain.ext {ops : Array Oper} {K : World → Prop} {base : Nat} {v0 : Value} {l0 : List UInt8} {ch : List (Nat × List UInt8)} {iS : Nat} {sl : List UInt8} (hB : chainB ops ch iS = true) (L L' : Nat → Bool) (f f' : Nat → Value) (w : World) (hL : ∀ j, j < ops.size → L j = L' j)
    (hf : ∀ j, j < ops.size → L j = true → (∃ o d, ops[j]? = some o ∧ o.dst = some d) → f j = f' j) (h : Chain K base v0 l0 ch iS sl L f w) : Chain K base v0 l0 ch iS sl L' f' w := by
  unfold chainB at hB
  rw [Bool.and_eq_true] at hB
  obtain ⟨h1, h2⟩ := hB
  obtain ⟨hk, hm, hs⟩ := h
  rw [curC_ext h1 hL hf] at hm
  refine ⟨hk, hm, fun hl => ?_⟩
  simp only [Bool.and_eq_true, decide_eq_true_eq] at h2
  rw [← hL _ h2.1] at hl
  rw [← hf _ h2.1 hl (has_dst h2.2)]
  exact hs hl
theorem curC_quiet {v0 v : Value} {l0 : List UInt8} {L : Nat → Bool} {f : Nat → Value} {i : Nat} : ∀ {ch : List (Nat × List UInt8)}, (ch.all fun x => x.1 != i) = true → curC ch v0 l0 (also L i) (yielding f i v) = curC ch v0 l0 L f
  | [], _ => rfl
  | x :: r, h => by
    simp only [List.all_cons, Bool.and_eq_true, bne_iff_ne, ne_eq] at h
    unfold curC
    have e : also L i x.1 = L x.1 := by simp [also, h.1]
    rw [e, curC_quiet h.2]
    have e2 : yielding f i v x.1 = f x.1 := by simp [yielding, h.1]
    rw [e2]
/-- An operation that only reads. -/
theorem Chain.quiet {K : World → Prop} {base : Nat} {v0 : Value} {l0 : List UInt8} {ch : List (Nat × List UInt8)} {iS : Nat} {sl : List UInt8} {L : Nat → Bool} {f : Nat → Value} {i : Nat} {v : Value} {w : World} (hc : (ch.all fun x => x.1 != i) = true) (hi : (iS != i) = true)
    (h : Chain K base v0 l0 ch iS sl L f w) : Chain K base v0 l0 ch iS sl (also L i) (yielding f i v) w := by
  obtain ⟨hk, hm, hs⟩ := h
  rw [bne_iff_ne] at hi
  refine ⟨hk, by rw [curC_quiet hc]; exact hm, fun hl => ?_⟩
  have e : also L i iS = L iS := by simp [also, hi]
  rw [e] at hl
  have e2 : yielding f i v iS = f iS := by simp [yielding, hi]
  rw [e2]
  exact hs hl
/-- The small slice. -/
theorem Chain.slice {K : World → Prop} {base : Nat} {v0 : Value} {l0 : List UInt8} {ch : List (Nat × List UInt8)} {iS : Nat} {sl : List UInt8} {L : Nat → Bool} {f : Nat → Value} {w : World} (hc : (ch.all fun x => x.1 != iS) = true) (hK : K (w.alloc (.cells (blk8 sl) 5)))
    (h : Chain K base v0 l0 ch iS sl L f w) : Chain K base v0 l0 ch iS sl (also L iS) (yielding f iS (.slice (some ⟨w.heap.size, 0, none⟩) sl.length sl.length)) (w.alloc (.cells (blk8 sl) 5)) := by
  obtain ⟨hk, hm, hs⟩ := h
  refine ⟨hK, by rw [curC_quiet hc]; exact hm.alloc _, fun _ => ⟨w.heap.size, by simp [yielding], heap_new w _⟩⟩
theorem mine_apart {w : World} {base : Nat} {u : Value} {l sl : List UInt8} {b : Nat} (hm : Mine w base u l) (hb : Blk w b 5 (blk8 sl)) (hlong : sl.length < l.length) : u.ownBlock ≠ some b := by
  intro e
  rcases hm.2 with ⟨rfl, _⟩ | ⟨g, cap, cur, rfl, _, hg, hn, _, hcs, _⟩
  · cases e
  · injection e with e
    subst e
    unfold Blk at hb
    rw [hb] at hg
    injection hg with hg
    injection hg with hg
    have h1 := blk8_size sl
    rw [hg] at h1
    omega
/-- An append. -/
theorem Chain.step {K : World → Prop} {base : Nat} {v0 : Value} {l0 : List UInt8} {ch : List (Nat × List UInt8)} {iS : Nat} {sl : List UInt8} {L : Nat → Bool} {f : Nat → Value} {i : Nat} {v u : Value} {l lp : List UInt8} {w w' : World} (h : Chain K base v0 l0 ch iS sl L f w) (hi : (iS != i) = true) (hcur : curC ch v0 l0 L f = (u, lp))
    (hnow : curC ch v0 l0 (also L i) (yielding f i v) = (v, l)) (hlong : sl.length < lp.length) (hK : K w') (hm' : Mine w' base v l) (hg : w.grownBy w' u.ownBlock) : Chain K base v0 l0 ch iS sl (also L i) (yielding f i v) w' := by
  obtain ⟨hk, hm, hs⟩ := h
  rw [hcur] at hm
  rw [bne_iff_ne] at hi
  refine ⟨hK, by rw [hnow]; exact hm', fun hl => ?_⟩
  have e : also L i iS = L iS := by simp [also, hi]
  rw [e] at hl
  have e2 : yielding f i v iS = f iS := by simp [yielding, hi]
  rw [e2]
  obtain ⟨b, e3, hb⟩ := hs hl
  exact ⟨b, e3, (hg.block b hb.lt (fun e => mine_apart hm hb hlong e.symm)).trans hb⟩
section
variable {P : Program} {w : World}
/-- append of a string, as an operation anywhere. -/
theorem wp_append_str {o : Oper} {a : Act} {K : Act → World → Prop} {Q : Exit → Act → World → Prop} (s x : Operand) (t u : TypeId) (ho : o.op = .call { callee := .builtin .append, args := #[s, x], argTypes := #[t, u] }) (i : TypeInfo) (ht : P.underlying t = some (.slice 5)) (hu : P.underlying u = some .string) (hi : P.info? 5 = some i) (hz : i.zero = some (.int .u8 0)) (hsize : i.size = 1) (hby : i.bytes = 1)
    {base : Nat} {v : Value} {l : List UInt8} (hs : a.eval s = v) (hown : Mine w base v l) {str : ByteArray} (hx : a.eval x = .string str) (hl : l.length + str.size ≤ 1000000) (hbase : base ≤ w.heap.size)
    (h : ∀ v' w', Mine w' base v' (l ++ str.data.toList) → w.grownBy w' v.ownBlock → K (a.put o.dst v') w') : o.wp P a w K Q := by
  obtain ⟨v', w', hrun, h2, h3, _⟩ := Lib.run_append_own_string (P := P) w base t u o.type 5 i ht hu hi hz hsize hby v l.length (u8s l) hown str (by unfold maxLen; omega) (by omega) hbase
  have hm : Mine w' base v' (l ++ str.data.toList) := by
    unfold Mine
    rw [u8s_append, List.length_append, show str.data.toList.length = str.size from Array.length_toList]
    exact h2
  unfold Oper.wp execOp
  simp only [ho, resolve, invoke, builtin, Sem.run_bind, Sem.run_pure, Result.andThen_ok, List.map_toArray, List.map_cons, List.map_nil, hs, hx, hrun]
  exact h v' w' hm h3
/-- append of a slice that reads as bytes. -/
theorem wp_append_bytes {o : Oper} {a : Act} {K : Act → World → Prop} {Q : Exit → Act → World → Prop} (s y : Operand) (t : TypeId) (ho : o.op = .call { callee := .builtin .append, args := #[s, y], argTypes := #[t, t] }) (i : TypeInfo) (ht : P.underlying t = some (.slice 5)) (hi : P.info? 5 = some i) (hz : i.zero = some (.int .u8 0)) (hsize : i.size = 1) (hby : i.bytes = 1)
    {base : Nat} {v x : Value} {l m : List UInt8} (hs : a.eval s = v) (hown : Mine w base v l) (hy : a.eval y = x) (hx : Rd w x (u8s m)) (hl : l.length + m.length ≤ 1000000) (hbase : base ≤ w.heap.size)
    (h : ∀ v' w', Mine w' base v' (l ++ m) → w.grownBy w' v.ownBlock → K (a.put o.dst v') w') : o.wp P a w K Q := by
  obtain ⟨v', w', hrun, h2, h3, _⟩ := run_append_rd (P := P) (w := w) t o.type 5 i (.int .u8 0) 1 ht hi hz hsize hby rfl v l.length (u8s l) hown x (u8s m) hx (oneCell_u8s m) (by rw [u8s_length]; unfold maxLen; omega) (by rw [u8s_length]; omega) hbase
  have hm : Mine w' base v' (l ++ m) := by
    unfold Mine
    rw [u8s_append, List.length_append, ← u8s_length m]
    exact h2
  unfold Oper.wp execOp
  simp only [ho, resolve, invoke, builtin, Sem.run_bind, Sem.run_pure, Result.andThen_ok, List.map_toArray, List.map_cons, List.map_nil, hs, hy, hrun]
  exact h v' w' hm h3
end
end

end Go.Proofs.Ytlplibgcfhamgaa
