/-
  What stage 7's statements lean on, part 3 of 6 (put together by merge.py).
-/
import Derived.Test.YthkocbfioegcnaaB2
namespace Go.Proofs.Ythkocbfioegcnaa
set_option linter.unusedSimpArgs false
set_option linter.unusedVariables false
section
/- Contract: one write into a region. -/
open Go.RowKit
set_option maxRecDepth 20000

theorem range_below {w w' : World} {b o : Nat} {cs : List Value} (h : w.rangeAt b o cs) (hA : Abv w w') (hb : b < w.heap.size) : w'.rangeAt b o cs :=
  fun j v hv => (Below.cell hA (p := ⟨b, o + j, none⟩) hb).trans (h j v hv)
theorem there_below {w w' : World} {b o n : Nat} (h : w.there b o n) (hA : Abv w w') (hb : b < w.heap.size) : w'.there b o n :=
  fun j hj => ⟨by rw [Below.cell hA (p := ⟨b, o + j, none⟩) hb]; exact (h j hj).1, by rw [Below.frozen hA (p := ⟨b, o + j, none⟩) hb]; exact (h j hj).2⟩
theorem Blk.range {w : World} {b o : Nat} {t : TypeId} {cs : Array Value} {l : List Value} (h : Blk w b t cs) (hl : ∀ j, j < l.length → cs[o + j]? = l[j]?) : w.rangeAt b o l := fun j v hv => by
  have hj := (List.getElem?_eq_some_iff.1 hv).1
  exact h.cell (o + j) v ((hl j hj).trans hv)
theorem Blk.there {w : World} {b o n : Nat} {t : TypeId} {cs : Array Value} (h : Blk w b t cs) (hn : o + n ≤ cs.size) : w.there b o n := fun j hj =>
  ⟨by rw [h.cell (o + j) _ (Array.getElem?_eq_getElem (by omega))]; rfl, h.frozen _⟩
theorem Kept.frozen {S : Nat → Prop} {a b : World} (h : Kept S a b) {p : Addr} (hlt : p.block < a.heap.size) (hn : ¬ S p.block) : b.frozen? p = a.frozen? p := World.frozen?_of_block (h.block _ hlt hn)
theorem own_form_n {w : World} {base size : Nat} {e : TypeId} {v : Value} {n : Nat} {xs : List Value} (h : w.ownsRow base e size v n xs) : ∃ A c, v = .slice A n c := by
  rcases h.2 with ⟨rfl, rfl⟩ | ⟨g, cap, cur, rfl, _⟩
  · exact ⟨_, _, rfl⟩
  · exact ⟨_, _, rfl⟩
theorem own_lt {w : World} {base size : Nat} {e : TypeId} {v : Value} {n : Nat} {xs : List Value} (h : w.ownsRow base e size v n xs) {k : Nat} (hk : v.ownBlock = some k) : k < w.heap.size := by
  rcases h.2 with ⟨rfl, rfl⟩ | ⟨g, cap, cur, rfl, _, hg, _⟩
  · cases hk
  · injection hk with hk
    subst hk
    exact Blk.lt hg
theorem oneCell_c (c : Chg) : ∀ u ∈ ccells c, u.oneCell' = true := by
  intro u hu
  rcases List.mem_cons.1 hu with rfl | hu
  · rfl
  · rcases List.mem_append.1 hu with hu | hu
    · exact oneCell_u8s _ u hu
    · exact oneCell_u8s _ u hu
theorem chSize : (Value.agg (ccells ⟨0, zsec, zsec⟩).toArray).cells.size = 129 := by kernel_rfl



end
section
/- A load and a store of many cells at an offset, inside a fence. -/
open Go.RowKit
set_option maxRecDepth 20000

theorem wpListIn_load_mid {F : Fence} {n : Nat} {P : Program} {w : World} {ops : Array Oper} {rest : List Oper} {o : Oper} {a : Act} {Q : Exit → Act → World → Prop} (hgd : o.guard = none) (ty : TypeId) (x : Operand) (ho : o.op = .load ty x)
    (b off : Nat) (hx : a.eval x = .pointer (some ⟨b, off, none⟩)) (cs : List Value) (d : TypeDesc) (hc : w.rangeAt b off cs) (hu : P.underlying ty = some d) (hd : d.isRow = true) (hi : (P.info? ty).map (·.size) = some cs.length)
    (h : wpListIn F n P ops Q rest (a.put o.dst (.agg cs.toArray)) w) : wpListIn F n P ops Q (o :: rest) a w := by
  refine wpListIn_plain hgd fun K hK' => ?_
  have hrun := run_loadAt_mid (P := P) w b off ty cs d hc hu hd hi
  unfold Oper.wpIn
  refine ⟨?_, ?_⟩
  · simp [Oper.about, ho]
  · rw [Oper.semAt_plain F _ _ (by rw [ho]; intro c hc'; cases hc')]
    simp only [execOp, ho, hx, Sem.run_bind, hrun, Result.andThen_ok, Sem.run_pure]
    exact hK' _ _ h
theorem wpListIn_store_mid {F : Fence} {n : Nat} {P : Program} {w : World} {ops : Array Oper} {rest : List Oper} {o : Oper} {a : Act} {Q : Exit → Act → World → Prop} (hgd : o.guard = none) (ty : TypeId) (x y : Operand) (ho : o.op = .store ty x y)
    (b off : Nat) (cells : Array Value) (hx : a.eval x = .pointer (some ⟨b, off, none⟩)) (hy : a.eval y = .agg cells) (ht : w.there b off cells.size) (hi : (P.info? ty).map (·.size) = some cells.size) (h1 : cells.all (·.oneCell') = true)
    (h : wpListIn F n P ops Q rest (a.put o.dst undef) (w.setCells b off cells.toList)) : wpListIn F n P ops Q (o :: rest) a w := by
  refine wpListIn_plain hgd fun K hK' => ?_
  have hrun := run_storeAt_mid (P := P) w b off ty cells ht hi h1
  unfold Oper.wpIn
  refine ⟨?_, ?_⟩
  · simp [Oper.about, ho]
  · rw [Oper.semAt_plain F _ _ (by rw [ho]; intro c hc'; cases hc')]
    simp only [execOp, ho, hx, hy, Sem.run_bind, hrun, Result.andThen_ok, Sem.run_pure]
    exact hK' _ _ h
end
section
/- Contract: slices.Backward over a region's changes. -/
open Go.RowKit Go.Shelf
set_option maxRecDepth 20000

attribute [local go_sem] Oper.semAt_some

/-- A change that fits a region of n sectors. -/
abbrev FC (n : Nat) := { c : Chg // c.place < n ∧ c.before.length = 64 ∧ c.after.length = 64 }
abbrev NC (n : Nat) := Nat × FC n
def encB {n : Nat} (x : NC n) : Array Value := #[.int .i64 (x.1 : Int), .agg (ccells x.2.1).toArray]
/-- What comes: the last one first. -/
def backs {n : Nat} (cl : List (FC n)) : List (NC n) := (cl.zipIdx.map fun p => (p.2, p.1)).reverse
theorem backs_length {n : Nat} (cl : List (FC n)) : (backs cl).length = cl.length := by simp [backs]
theorem backs_get {n : Nat} (cl : List (FC n)) (k q : Nat) (hk : k < cl.length) (hq : q + k + 1 = cl.length) (h1 : k < (backs cl).length) : (backs cl)[k] = (q, cl[q]'(by omega)) := by
  simp only [backs, List.getElem_reverse, List.getElem_map, List.getElem_zipIdx, List.length_map, List.length_zipIdx]
  have : cl.length - 1 - k = q := by omega
  simp [this]
theorem take_next {α : Type} (l : List α) (k : Nat) (h : k < l.length) : l.take (k + 1) = l.take k ++ [l[k]] := by
  rw [List.take_succ_eq_append_getElem h]
/-- Those blocks are as they were. -/
def Same (Q : Nat → Prop) (W W' : World) : Prop := ∀ k, Q k → W'.heap[k]? = W.heap[k]?
theorem Same.refl (Q : Nat → Prop) (W : World) : Same Q W W := fun _ _ => rfl
theorem Same.trans {Q : Nat → Prop} {A B C : World} (h : Same Q A B) (k : Same Q B C) : Same Q A C := fun i hi => (k i hi).trans (h i hi)
theorem Same.cell {Q : Nat → Prop} {A B : World} (h : Same Q A B) {p : Addr} (hp : Q p.block) : B.cell? p = A.cell? p := World.cell?_of_block (h _ hp)

theorem sameK_b {Q : Nat → Prop} {w : World} (hQ : ∀ k, Q k → k < w.heap.size) (W : World) (l : Nat) (o o' : Obj) (hl : w.heap.size ≤ l) (_ : W.heap[l]? = some o) (_ : o.isCells = false) (_ : o.isWalk = false) : Same Q W (W.putObj l o') :=
  fun k hk => World.putObj_heap_other (by have := hQ k hk; omega)
end
section
/- A disk behind one write (memory alone; no walk). -/
open Go.RowKit
set_option maxRecDepth 20000

def Ds.write (d : Ds) (i : Nat) (r : Rg) (s : Nat) (b : Sec) : Ds := ⟨d.size, d.regs.set i (r.write s b), d.writes + 1⟩
def Ds.barrier (d : Ds) (i : Nat) (r : Rg) : Ds := ⟨d.size, d.regs.set i r.barrier, d.writes⟩
def Ds.arm (d : Ds) (i : Nat) (r : Rg) (n : Int) : Ds := ⟨d.size, d.regs.set i (r.arm n), d.writes⟩
def Ds.crash (d : Ds) (m : Nat → Bool) : Ds := ⟨d.size, d.regs.map (Rg.crash m), d.writes⟩

/-- What a disk's call leaves of the rest. -/
def DkStep (w w' : World) (lab lab' : Nat → Nat) : Prop := Kept (fun k => lab k ≠ 0) w w' ∧ ∀ k, lab' k ≠ 0 → lab k ≠ 0 ∨ (w.heap.size ≤ k ∧ k < w'.heap.size)
theorem DkStep.refl (w : World) (lab : Nat → Nat) : DkStep w w lab lab := ⟨Kept.refl _ _, fun _ h => .inl h⟩


end
section
/- Contracts: a disk's Write, Barrier, Arm, Read, Waits, Writes, Down. -/
open Go.RowKit
set_option maxRecDepth 20000

/-- The region that there is. -/
def Ds.at? (d : Ds) (r : Int) : Option Rg := if r < 0 then none else d.regs[r.toNat]?
/-- What Write answers. -/
def Ds.wrCode (d : Ds) (r s : Int) (n : Nat) : Int :=
  match d.at? r with
  | none => 1
  | some g => if s < 0 ∨ (d.size : Int) ≤ s ∨ 64 < n then 1 else if g.down then 10 else 0
def Ds.wr (d : Ds) (r s : Int) (l : List UInt8) : Ds :=
  match d.at? r with
  | none => d
  | some g => if s < 0 ∨ (d.size : Int) ≤ s ∨ 64 < l.length then d else if g.down then d else d.write r.toNat g s.toNat (pad l)

theorem pad_splice (l : List UInt8) : splice (u8s zsec) 0 (u8s l) = u8s (pad l) := by
  unfold splice pad
  rw [u8s_append, List.take_zero, List.nil_append, Nat.zero_add, u8s_length, ← u8s_drop]
  congr 2
  exact List.drop_replicate ..

theorem at_some {d : Ds} {r : Int} {rg : Rg} (h : d.at? r = some rg) : ∃ i : Nat, r = (i : Int) ∧ i < d.regs.length ∧ d.regs[i]? = some rg := by
  unfold Ds.at? at h
  split at h
  · cases h
  · refine ⟨r.toNat, by omega, (List.getElem?_eq_some_iff.1 h).1, h⟩

end
section
/- Contracts: a disk's Barrier, Arm, Waits, Writes, Down, Read. -/
open Go.RowKit
set_option maxRecDepth 20000


/-- What Barrier answers, and leaves. -/
def Ds.brCode (d : Ds) (r : Int) : Int := match d.at? r with | none => 1 | some g => if g.down then 10 else 0
def Ds.br (d : Ds) (r : Int) : Ds := match d.at? r with | none => d | some g => if g.down then d else d.barrier r.toNat g
def Ds.ar (d : Ds) (r n : Int) : Ds := match d.at? r with | none => d | some g => d.arm r.toNat g n

theorem out_of {d : Ds} {r : Int} (hr : d.at? r = none) : r < 0 ∨ (d.regs.length : Int) ≤ r := by
  unfold Ds.at? at hr
  split at hr
  · exact .inl ‹_›
  · right; rw [List.getElem?_eq_none_iff] at hr; omega



/-- Waits, Down, Writes. -/
def Ds.waits (d : Ds) (r : Int) : Nat := match d.at? r with | none => 0 | some g => g.ws.length
def Ds.dn (d : Ds) (r : Int) : Bool := match d.at? r with | none => false | some g => g.down
end
section
/- The law of phases, inside a fence: for regions whose operations call nothing. -/
open Go.RowKit
set_option maxRecDepth 20000

/-- An operation that calls nothing. -/
def plainOp : Op → Bool
  | .move _ | .load .. | .store .. | .fieldAddr .. | .indexAddr .. | .nilCheck _ => true
  | _ => false
/-- What such an operation comes to: a value, nothing, or an end. -/
def lone_ : Result Next → Prop
  | .ok (.value _) _ => True
  | .ok .skip _ => True
  | .halt _ _ => True
  | _ => False
section
variable {P : Program} {w : World}
theorem lone_value (s : Sem Value) : lone_ ((do pure (Next.value (← s)) : Sem Next).run P w) := by
  rw [Sem.run_bind]
  cases s.run P w <;> trivial
theorem lone_skip (s : Sem Unit) : lone_ ((do s; pure Next.skip : Sem Next).run P w) := by
  rw [Sem.run_bind]
  cases s.run P w <;> trivial
theorem plain_run {o : Oper} (ρ : Operand → Value) (h : plainOp o.op = true) : lone_ ((execOp ρ o).run P w) := by
  unfold execOp
  cases ho : o.op <;> rw [ho] at h <;> try (cases h)
  · trivial
  · exact lone_value _
  · exact lone_skip _
  · dsimp only
    split
    · simp [runtimePanic, lone_]
    · simp [runtimePanic, lone_]
    · simp [runtimePanic, lone_]
    · split
      · simp [runtimePanic, lone_]
      · simp only [Sem.run_bind]
        generalize (program).run P w = r1
        cases r1 with
        | halt x w' => trivial
        | ok q w1 =>
          simp only [Result.andThen]
          generalize Sem.run P _ w1 = r2
          cases r2 with
          | halt x w' => trivial
          | ok b w2 =>
            simp only []
            by_cases hb : (b != some false) = true
            · rw [if_pos hb]; simp [unsupported, lone_]
            · rw [if_neg hb]; simp [lone_]
      · trivial
    · trivial
  · exact lone_value _
  · exact lone_value _
theorem about_plain {o : Oper} {ρ : Operand → Value} (h : plainOp o.op = true) : o.about P w ρ = none := by
  unfold Oper.about
  cases ho : o.op <;> rw [ho] at h <;> first | rfl | cases h
theorem wpIn_of_plain {F : Fence} {n : Nat} {o : Oper} {a : Act} {K : Act → World → Prop} {Q : Exit → Act → World → Prop} (hp : plainOp o.op = true) (h : o.wp P a w K Q) : o.wpIn F n P a w K Q := by
  unfold Oper.wpIn
  refine ⟨fun f hf => (by rw [about_plain hp] at hf; cases hf), ?_⟩
  rw [Oper.semAt_plain F _ _ (by intro c hc; rw [hc] at hp; cases hp)]
  unfold Oper.wp at h
  have hl := plain_run (P := P) (w := w) a.eval hp
  generalize (execOp a.eval o).run P w = r at *
  cases r with
  | ok x w' => cases x <;> first | exact h | exact hl.elim
  | halt x w' => cases x <;> exact h
variable {ops : Array Oper} {Q : Exit → Act → World → Prop}
theorem wpAnyIn_nowP {F : Fence} {n : Nat} {V : Nat → Value → Prop} {M : Phases} {a0 : Act} (hpl : (ops.all fun o => plainOp o.op) = true) (hB : onceB ops = true) (hR : roomB ops a0.tmps.size = true) (hM : ∀ L L' f f' w, (∀ j, j < ops.size → L j = L' j) → (∀ j, j < ops.size → L j = true → (∃ o d, ops[j]? = some o ∧ o.dst = some d) → f j = f' j) → M L f w → M L' f' w)
    (duty : ∀ i o, ops[i]? = some o → DutyP P ops Q V M a0 i o)
    (fin : ∀ listed a w, Region.ready .any ops listed = [] → NowP ops V M a0 listed a w → Q .normal a w) :
    ∀ (fuel : Nat) (listed : Array Bool) (a : Act) (w : World), ((List.range ops.size).filter fun i => !listed.getD i true).length ≤ fuel → NowP ops V M a0 listed a w → wpAnyIn F n P .any ops Q fuel listed a w := by
  intro fuel
  induction fuel with
  | zero =>
    intro listed a w hf hn
    have hr : Region.ready .any ops listed = [] := by
      have h0 : ((List.range ops.size).filter fun i => !listed.getD i true) = [] := List.eq_nil_of_length_eq_zero (by omega)
      unfold Region.ready
      rw [List.filter_eq_nil_iff] at h0 ⊢
      intro i hi
      have := h0 i hi
      simp only [Bool.and_eq_true, not_and]
      intro h1
      exact absurd h1 this
    exact ⟨hr, fin _ _ _ hr hn⟩
  | succ fuel ih =>
    intro listed a w hf hn
    refine ⟨fun hr => fin _ _ _ hr hn, fun i hi => ?_⟩
    have hmem := hi
    unfold Region.ready at hmem
    rw [List.mem_filter, List.mem_range] at hmem
    have ho : ops[i]? = some ops[i] := Array.getElem?_eq_getElem hmem.1
    have hready := hmem.2
    rw [ho] at hready
    simp only [Option.map_some, Option.getD_some, Bool.and_eq_true, Bool.not_eq_true'] at hready
    have hl : i < listed.size := by rw [hn.len]; exact hmem.1
    have hfuel : ((List.range ops.size).filter fun k => !(listed.setIfInBounds i true).getD k true).length ≤ fuel := by
      have h1 : ∀ l : List Nat, (l.filter fun k => !(listed.setIfInBounds i true).getD k true).length + (l.filter fun k => k == i).length ≤ (l.filter fun k => !listed.getD k true).length := by
        intro l
        induction l with
        | nil => simp
        | cons x l ihl =>
          simp only [List.filter_cons]
          by_cases e : x = i
          · subst e
            have e1 : (listed.setIfInBounds x true).getD x true = true := by
              simp only [Array.getD_eq_getD_getElem?, Array.getElem?_setIfInBounds]; simp [hl]
            simp only [e1, hready.1, beq_self_eq_true, Bool.not_true, Bool.not_false, if_true, Bool.false_eq_true, if_false, List.length_cons]
            omega
          · have e1 : (listed.setIfInBounds i true).getD x true = listed.getD x true := by
              simp only [Array.getD_eq_getD_getElem?, Array.getElem?_setIfInBounds]
              rw [if_neg (fun h => e h.symm)]
            have e2 : (x == i) = false := by simp [e]
            simp only [e1, e2, Bool.false_eq_true, if_false]
            split
            · simp only [List.length_cons]; omega
            · exact ihl
      have h2 := h1 (List.range ops.size)
      have h3 : 1 ≤ ((List.range ops.size).filter fun k => k == i).length := by
        have : i ∈ (List.range ops.size).filter fun k => k == i := by simp [hmem.1]
        exact List.length_pos_of_mem this
      omega
    have hif : listed.getD i false = false := by
      have h3 := hready.1
      simp only [Array.getD_eq_getD_getElem?] at h3 ⊢
      rw [Array.getElem?_eq_getElem hl] at h3 ⊢
      simpa using h3
    have hbehind : ∀ j, behind ops i j = true → listed.getD j false = true := by
      intro j hb
      unfold behind at hb
      rw [ho] at hb
      simp only [Option.map_some, Option.getD_some, Array.any_eq_true'] at hb
      obtain ⟨e', he', hbb⟩ := hb
      have h3 := hready.2
      rw [Array.all_eq_true'] at h3
      have h4 := h3 e' he'
      simp only [Bool.and_eq_true, beq_iff_eq] at hbb
      rw [hbb.1, hbb.2] at h4
      simpa using h4
    unfold wpOpIn
    rw [ho]
    have hd := duty i _ ho (fun j => listed.getD j false) a w hn.phase hn.size hif (fun j hj => by
        cases hx : listed.getD j false with
        | false => rfl
        | true => rw [ahead_spec hn.shut hj hx] at hif; cases hif) hbehind
      (fun t ht => hn.old t (fun j oj hj hoj hdst => by
        unfold oldB at ht
        rw [List.all_eq_true] at ht
        have h1 := ht j (List.mem_range.2 (Array.getElem?_eq_some_iff.1 hoj).1)
        rw [hoj] at h1
        simp only [Option.map_some, Option.getD_some, Bool.or_eq_true, hdst, bne_self_eq_false, Bool.false_eq_true, false_or] at h1
        have h2 := hn.shut j i hj h1
        rw [h2] at hif
        cases hif))
      (fun j oj d hb hoj hdst => hn.done_ j oj d (hbehind j hb) hoj hdst)
    have hpo : plainOp (ops[i]).op = true := by
      rw [Array.all_eq_true'] at hpl
      exact hpl _ (Array.mem_of_getElem? ho)
    show if Region.wanted ops[i] (yielded ops a.tmps) = true then _ else _
    split at hd
    · rename_i hw
      rw [if_pos hw]
      refine Oper.wpIn_mono ?_ (wpIn_of_plain hpo hd)
      rintro a' w' ⟨v, rfl, hv, hph⟩
      exact ih _ _ _ hfuel (hn.step hB hR hM hi ho hv hph)
    · rename_i hw
      rw [if_neg hw]
      refine ⟨fun f hf => (by rw [about_plain hpo] at hf; cases hf), ?_⟩
      exact ih _ _ _ hfuel (hn.step hB hR hM hi ho hd.1 hd.2)

/-- The law. -/
theorem region_phasesIn {F : Fence} {n : Nat} {id : Nat} {a0 : Act} {w0 : World} (V : Nat → Value → Prop) (M : Phases) (hm : P.follows .mixedOrders = true) (hpl : (ops.all fun o => plainOp o.op) = true) (hB : onceB ops = true) (hR : roomB ops a0.tmps.size = true) (hlow : lowB ops = true)
    (hM : ∀ L L' f f' w, (∀ j, j < ops.size → L j = L' j) → (∀ j, j < ops.size → L j = true → (∃ o d, ops[j]? = some o ∧ o.dst = some d) → f j = f' j) → M L f w → M L' f' w)
    (h0 : M (fun _ => false) (got ops a0) w0.drew)
    (duty : ∀ i o, ops[i]? = some o → DutyP P ops Q V M a0 i o)
    (fin : ∀ a w, M (fun _ => true) (got ops a) w → a.tmps.size = a0.tmps.size → a.defers = a0.defers → (∀ (j : Nat) (o : Oper) (d : Tmp), ops[j]? = some o → o.dst = some d → V j (a.tmps.getD d undef)) →
      (∀ t : Tmp, neverB ops t = true → a.tmps.getD t undef = a0.tmps.getD t undef) → Q .normal a w) :
    (Code.region id ops true).wpIn F n P Q a0 w0 := by
  refine wpIn_region_any hm ?_
  have hrep : ∀ j, (Array.replicate ops.size false).getD j false = false := by
    intro j
    simp only [Array.getD_eq_getD_getElem?, Array.getElem?_replicate]
    split <;> rfl
  refine wpAnyIn_nowP hpl hB hR hM duty ?_ _ _ _ _ (Nat.le_trans (List.length_filter_le _ _) (by simp)) ⟨hM _ _ _ _ _ (fun j _ => (hrep j).symm) (fun _ _ h => by cases h) h0, rfl, rfl, by simp, ?_, fun _ _ => rfl, ?_⟩
  · intro listed a w hr hn
    have hall := hend_of hlow listed hn.len hr
    refine fin a w (hM _ _ _ _ _ (fun j hj => hall j hj) (fun _ _ _ _ => rfl) hn.phase) hn.size hn.defers (fun j o d ho hd => hn.done_ j o d (hall j (Array.getElem?_eq_some_iff.1 ho).1) ho hd) (fun t ht => hn.old t (fun j o _ ho hd => by
      unfold neverB at ht
      rw [Array.all_eq_true'] at ht
      have := ht o (Array.mem_of_getElem? ho)
      rw [hd] at this
      simp at this))
  · intro j o d hj
    rw [hrep] at hj; cases hj
  · intro j i hj
    rw [hrep] at hj; cases hj

end
end
section
/- Contract: a region behind a crash. -/
open Go.RowKit Go.Shelf
set_option maxRecDepth 20000

attribute [local go_sem] Oper.semAt_some

/-- Sectors, those changes taken back. -/
def backTo {n : Nat} (l : List Sec) (pre : List (NC n)) : List Sec := pre.foldl (fun l x => l.set x.2.1.place x.2.1.before) l
theorem backTo_snoc {n : Nat} (l : List Sec) (pre : List (NC n)) (x : NC n) : backTo l (pre ++ [x]) = (backTo l pre).set x.2.1.place x.2.1.before := by simp [backTo]
theorem backTo_length {n : Nat} (pre : List (NC n)) : ∀ l : List Sec, (backTo l pre).length = l.length := by
  induction pre with
  | nil => intro l; rfl
  | cons x pre ih => intro l; show (backTo (l.set _ _) pre).length = _; rw [ih, List.length_set]
theorem backTo_full {n : Nat} (pre : List (NC n)) : ∀ l : List Sec, (∀ s ∈ l, s.length = 64) → ∀ s ∈ backTo l pre, s.length = 64 := by
  induction pre with
  | nil => intro l h; exact h
  | cons x pre ih =>
    intro l h
    refine ih _ (fun s hs => ?_)
    rcases List.mem_or_eq_of_mem_set hs with h1 | rfl
    · exact h s h1
    · exact x.2.2.2.1
theorem backTo_backs {n : Nat} (cl : List (FC n)) (l : List Sec) : backTo l (backs cl) = undo (cl.map (·.1)) l := by
  unfold backTo backs undo
  rw [List.foldl_reverse, List.foldr_map, List.foldr_map]
  have : ∀ (cl : List (FC n)) (k : Nat), List.foldr (fun (x : FC n × Nat) (y : List Sec) => y.set x.1.1.place x.1.1.before) l (cl.zipIdx k) = List.foldr (fun (x : FC n) (y : List Sec) => y.set x.1.place x.1.before) l cl := by
    intro cl
    induction cl with
    | nil => intro k; rfl
    | cons c cl ih => intro k; rw [List.zipIdx_cons, List.foldr_cons, List.foldr_cons, ih]
  exact this cl 0
theorem ch_before (c : Chg) : ∀ j, j < (u8s c.before).length → (ccells c).toArray[1 + j]? = (u8s c.before)[j]? := by
  intro j hj
  rw [List.getElem?_toArray, Nat.add_comm]
  show (u8s c.before ++ u8s c.after)[j]? = _
  rw [List.getElem?_append_left hj]
theorem ch_after (c : Chg) (hb : c.before.length = 64) : ∀ j, j < (u8s c.after).length → (ccells c).toArray[65 + j]? = (u8s c.after)[j]? := by
  intro j hj
  rw [List.getElem?_toArray, show 65 + j = (64 + j) + 1 by omega]
  show (u8s c.before ++ u8s c.after)[64 + j]? = _
  rw [List.getElem?_append_right (by rw [u8s_length, hb]; omega), u8s_length, hb]
  congr 1; omega
/-- The mask's bit for write i. -/
def bitOf (mask : Nat) (i : Nat) : Bool := mask.testBit (i % 64)
theorem bit_at (mask k : Nat) : bits .and .u64 ((mask : Int) / 2 ^ (k % 64)) 1 = if bitOf mask k then 1 else 0 := by
  have e : (mask : Int) / 2 ^ (k % 64) = ((mask / 2 ^ (k % 64) : Nat) : Int) := by
    rw [Int.natCast_ediv, Int.natCast_pow]; rfl
  have e2 : bitOf mask k = decide (mask / 2 ^ (k % 64) % 2 = 1) := Nat.testBit_eq_decide_div_mod_eq
  rw [e, e2]
  generalize mask / 2 ^ (k % 64) = q
  have h1 : bits .and .u64 (q : Int) 1 = IntKind.u64.wrap (((BitVec.ofInt 64 (q : Int) &&& BitVec.ofInt 64 1).toNat : Int)) := rfl
  have h2 : (BitVec.ofInt 64 (q : Int) &&& BitVec.ofInt 64 1).toNat = q % 2 := by
    rw [BitVec.toNat_and, BitVec.ofInt_natCast, BitVec.toNat_ofNat, show (BitVec.ofInt 64 1).toNat = 1 by decide, Nat.and_one_is_mod]
    omega
  rw [h1, h2]
  rcases Nat.mod_two_eq_zero_or_one q with h | h <;> rw [h] <;> rfl


end
section
/- Contract: a disk's Read. -/
open Go.RowKit
set_option maxRecDepth 20000

/-- What Read tells: a sector, if there is one. -/
def Ds.rd? (d : Ds) (r s : Int) : Option Sec :=
  match d.at? r with
  | none => none
  | some g => if s < 0 ∨ (d.size : Int) ≤ s then none else g.secs[s.toNat]?
theorem splice_whole (cs : List Value) (h : cs.length = 64) : splice (u8s zsec) 0 cs = cs := by
  unfold splice
  rw [List.take_zero, List.nil_append, List.drop_eq_nil_of_le (by rw [u8s_length, Nat.zero_add, h]; exact Nat.le_refl 64), List.append_nil]
end
section
/- Contract: a disk's Crash. -/
open Go.RowKit
set_option maxRecDepth 20000

/-- The first k regions behind a crash. -/
def Ds.some_ (d : Ds) (m : Nat → Bool) (k : Nat) : Ds := ⟨d.size, (d.regs.take k).map (Rg.crash m) ++ d.regs.drop k, d.writes⟩
theorem some_zero (d : Ds) (m : Nat → Bool) : d.some_ m 0 = d := by simp [Ds.some_]
theorem some_all (d : Ds) (m : Nat → Bool) : d.some_ m d.regs.length = d.crash m := by simp [Ds.some_, Ds.crash]
theorem some_length (d : Ds) (m : Nat → Bool) (k : Nat) : (d.some_ m k).regs.length = d.regs.length := by simp [Ds.some_]; omega
theorem some_get (d : Ds) (m : Nat → Bool) (k : Nat) (hk : k < d.regs.length) : (d.some_ m k).regs[k]? = some d.regs[k] := by
  unfold Ds.some_
  simp only
  rw [List.getElem?_append_right (by simp; omega)]
  simp only [List.length_map, List.length_take, Nat.min_eq_left (Nat.le_of_lt hk), Nat.sub_self, List.getElem?_drop, Nat.add_zero]
  exact List.getElem?_eq_getElem hk
theorem some_next (d : Ds) (m : Nat → Bool) (k : Nat) (hk : k < d.regs.length) : (⟨(d.some_ m k).size, (d.some_ m k).regs.set k (d.regs[k].crash m), (d.some_ m k).writes⟩ : Ds) = d.some_ m (k + 1) := by
  unfold Ds.some_
  simp only [Ds.mk.injEq, true_and, and_true]
  have hl : ((d.regs.take k).map (Rg.crash m)).length = k := by simp; omega
  rw [List.set_append_right _ _ (by omega), hl, Nat.sub_self, List.drop_eq_getElem_cons hk, List.set_cons_zero, List.take_succ_eq_append_getElem hk, List.map_append, List.append_assoc]
  rfl


end
section
/- Several disks at once, and blocks that are none of theirs. -/
open Go.RowKit
set_option maxRecDepth 20000

/-- Blocks of X are as they were. -/
def Out (X : Nat → Prop) (w w' : World) : Prop := Kept (fun k => ¬ X k) w w'
theorem Out.refl (X : Nat → Prop) (w : World) : Out X w w := Kept.refl _ _
theorem Out.trans {X : Nat → Prop} {a b c : World} (h : Out X a b) (k : Out X b c) : Out X a c := Kept.trans_same h k
theorem Out.below {X : Nat → Prop} {a b : World} {B : Nat} (h : Out X a b) (hB : B ≤ a.heap.size) (hX : ∀ k, k < B → X k) : Below B a b := Kept.below h hB (fun k hk => by
  rcases Nat.lt_or_ge k B with h1 | h1
  · exact absurd (hX k h1) hk
  · exact h1)
theorem Out.of_below {X : Nat → Prop} {a b : World} (h : Below a.heap.size a b) : Out X a b := Kept.of_below h
theorem Out.blk {X : Nat → Prop} {a b : World} (h : Out X a b) {g : Nat} {t : TypeId} {cs : Array Value} (hb : Blk a g t cs) (hx : X g) : Blk b g t cs := Kept.blk h hb (fun hn => hn hx)
theorem Out.row {X : Nat → Prop} {a b : World} (h : Out X a b) {B : Nat} {v : Value} {xs : List Value} (hr : Row a B v xs) (hB : B ≤ a.heap.size) (hX : ∀ k, k < B → X k) : Row b B v xs := Kept.row h hr hB (fun k hk hn => hn (hX k hk))

theorem set_same {α : Type} {l : List α} {i : Nat} {x : α} (h : l[i]? = some x) : l.set i x = l := by
  obtain ⟨hi, rfl⟩ := List.getElem?_eq_some_iff.1 h
  exact List.set_getElem_self hi

/-- How much a disk holds. -/
def Small (d : Ds) (k : Nat) : Prop := d.writes ≤ k ∧ ∀ r ∈ d.regs, r.ws.length ≤ k ∧ r.left < 9223372036854775808
theorem at_mem {d : Ds} {r : Int} {g : Rg} (h : d.at? r = some g) : g ∈ d.regs := by
  obtain ⟨i, _, _, hi⟩ := at_some h
  exact List.mem_of_getElem? hi
theorem Small.more {d : Ds} {k k' : Nat} (h : Small d k) (hk : k ≤ k') : Small d k' := ⟨Nat.le_trans h.1 hk, fun r hr => ⟨Nat.le_trans (h.2 r hr).1 hk, (h.2 r hr).2⟩⟩
theorem Small.wr {d : Ds} {k : Nat} (h : Small d k) (r s : Int) (b : List UInt8) : Small (d.wr r s b) (k + 1) := by
  unfold Ds.wr
  split
  · exact h.more (by omega)
  · rename_i g hg
    split
    · exact h.more (by omega)
    · split
      · exact h.more (by omega)
      · refine ⟨by have := h.1; simp [Ds.write]; omega, fun x hx => ?_⟩
        rcases List.mem_or_eq_of_mem_set hx with h1 | rfl
        · exact ⟨by have := (h.2 x h1).1; omega, (h.2 x h1).2⟩
        · have h2 := h.2 g (at_mem hg)
          refine ⟨by simp [Rg.write]; omega, ?_⟩
          show (if g.armed then g.left - 1 else g.left) < _
          split <;> omega
theorem Small.br {d : Ds} {k : Nat} (h : Small d k) (r : Int) : Small (d.br r) k := by
  unfold Ds.br
  split
  · exact h
  · rename_i g hg
    split
    · exact h
    · refine ⟨h.1, fun x hx => ?_⟩
      rcases List.mem_or_eq_of_mem_set hx with h1 | rfl
      · exact h.2 x h1
      · exact ⟨Nat.zero_le _, (h.2 g (at_mem hg)).2⟩
theorem Small.ar {d : Ds} {k : Nat} (h : Small d k) (r n : Int) (hn : n < 9223372036854775808) : Small (d.ar r n) k := by
  unfold Ds.ar
  split
  · exact h
  · rename_i g hg
    refine ⟨h.1, fun x hx => ?_⟩
    rcases List.mem_or_eq_of_mem_set hx with h1 | rfl
    · exact h.2 x h1
    · exact ⟨(h.2 g (at_mem hg)).1, by show n.toNat < _; omega⟩
theorem Small.crash {d : Ds} {k : Nat} (h : Small d k) (m : Nat → Bool) : Small (d.crash m) k := by
  refine ⟨h.1, fun x hx => ?_⟩
  obtain ⟨r, _, rfl⟩ := List.mem_map.1 hx
  exact ⟨Nat.zero_le _, by show (0 : Nat) < _; decide⟩
theorem Small.new (n size : Nat) : Small ⟨size, List.replicate n (Rg.new size), 0⟩ 0 := ⟨Nat.le_refl _, fun r hr => by rw [(List.mem_replicate.1 hr).2]; exact ⟨Nat.le_refl _, by show (0 : Nat) < _; decide⟩⟩

section
variable {w : World} {X : Nat → Prop} {l : List (Nat × Ds)} {i g : Nat} {d : Ds}
end
end
section
/- What a disk answers, case by case (plain data); bits of small masks. -/
open Go.RowKit
set_option maxRecDepth 20000

section
variable {d : Ds} {r s : Int} {g : Rg} {b : List UInt8}
theorem wr_ok (h : d.at? r = some g) (h0 : 0 ≤ s) (h1 : s < (d.size : Int)) (hb : b.length ≤ 64) (hd : g.down = false) : d.wrCode r s b.length = 0 ∧ d.wr r s b = d.write r.toNat g s.toNat (pad b) := by
  unfold Ds.wrCode Ds.wr
  rw [h]
  simp only
  have e : ¬ (s < 0 ∨ (d.size : Int) ≤ s ∨ 64 < b.length) := by omega
  rw [if_neg e, if_neg e, hd]
  exact ⟨rfl, rfl⟩
theorem wr_dn (h : d.at? r = some g) (h0 : 0 ≤ s) (h1 : s < (d.size : Int)) (hb : b.length ≤ 64) (hd : g.down = true) : d.wrCode r s b.length = 10 ∧ d.wr r s b = d := by
  unfold Ds.wrCode Ds.wr
  rw [h]
  simp only
  have e : ¬ (s < 0 ∨ (d.size : Int) ≤ s ∨ 64 < b.length) := by omega
  rw [if_neg e, if_neg e, hd]
  exact ⟨rfl, rfl⟩
theorem wr_none (h : d.at? r = none) : d.wrCode r s b.length = 1 ∧ d.wr r s b = d := by
  unfold Ds.wrCode Ds.wr
  rw [h]
  exact ⟨rfl, rfl⟩
theorem wr_bad (h : d.at? r = some g) (h1 : s < 0 ∨ (d.size : Int) ≤ s ∨ 64 < b.length) : d.wrCode r s b.length = 1 ∧ d.wr r s b = d := by
  unfold Ds.wrCode Ds.wr
  rw [h]
  simp only
  rw [if_pos h1, if_pos h1]
  exact ⟨rfl, rfl⟩
theorem rd_some (h : d.at? r = some g) (h0 : 0 ≤ s) (h1 : s < (d.size : Int)) : d.rd? r s = g.secs[s.toNat]? := by
  unfold Ds.rd?
  rw [h]
  simp only
  rw [if_neg (by omega)]
theorem rd_none (h : d.at? r = none) : d.rd? r s = none := by unfold Ds.rd?; rw [h]
theorem rd_bad (h : d.at? r = some g) (h1 : s < 0 ∨ (d.size : Int) ≤ s) : d.rd? r s = none := by
  unfold Ds.rd?
  rw [h]
  simp only
  rw [if_pos h1]
end
theorem at_nat (d : Ds) (i : Nat) : d.at? (i : Int) = d.regs[i]? := by
  unfold Ds.at?
  rw [if_neg (by omega), Int.toNat_natCast]
theorem and_low (x : Int) (j : Nat) (hj : j ≤ 31) : ∃ m : Nat, m < 2 ^ j ∧ bits .and .i64 x ((2 ^ j - 1 : Nat) : Int) = (m : Int) := by
  have hp : 2 ^ j ≤ 2 ^ 31 := Nat.pow_le_pow_right (by omega) hj
  have hp2 : (2 : Nat) ^ 31 = 2147483648 := by decide
  have hpos : 0 < 2 ^ j := Nat.two_pow_pos j
  generalize 2 ^ j = p at *
  have h1 : bits .and .i64 x ((p - 1 : Nat) : Int) = IntKind.i64.wrap (((BitVec.ofInt 64 x &&& BitVec.ofInt 64 ((p - 1 : Nat) : Int)).toNat : Int)) := rfl
  have h2 : (BitVec.ofInt 64 x &&& BitVec.ofInt 64 ((p - 1 : Nat) : Int)).toNat ≤ p - 1 := by
    rw [BitVec.toNat_and, BitVec.ofInt_natCast, BitVec.toNat_ofNat, Nat.mod_eq_of_lt (by omega)]
    exact Nat.and_le_right
  rw [h1]
  generalize (BitVec.ofInt 64 x &&& BitVec.ofInt 64 ((p - 1 : Nat) : Int)).toNat = c at *
  refine ⟨c, by omega, ?_⟩
  rw [IntKind.wrap_i64]
  omega
theorem and31 (x : Int) : ∃ m : Nat, m < 32 ∧ bits .and .i64 x 31 = (m : Int) := and_low x 5 (by omega)
theorem and3 (x : Int) : ∃ m : Nat, m < 4 ∧ bits .and .i64 x 3 = (m : Int) := and_low x 2 (by omega)
theorem and7 (x : Int) : ∃ m : Nat, m < 8 ∧ bits .and .i64 x 7 = (m : Int) := and_low x 3 (by omega)
end

end Go.Proofs.Ythkocbfioegcnaa
