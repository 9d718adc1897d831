/-
  The model of DiskRuns in memory.
-/
import Derived.Test.YthlclhfepnmaeaaMdl
namespace Go.Proofs.Ythlclhfepnmaeaa
open Go.RowKit

def ECall : TypeId := 36
structure Md (w : World) (b1 gm : Nat) (PC : Array Value) (dat : Nat → Nat → List UInt8) (wt : Nat → List CallD) (lf : Nat → Int) (vs : Nat → Value) : Prop where
  blk : Blk w gm 32 PC
  size : PC.size = 30
  dats : ∀ r s, r < 3 → s < 8 → PC[r * 8 + s]? = some (.string ⟨(dat r s).toArray⟩)
  rows : ∀ r, r < 3 → PC[24 + r]? = some (vs r)
  lefts : ∀ r, r < 3 → PC[27 + r]? = some (.int .i64 (lf r))
  own : ∀ r, r < 3 → w.ownsRow b1 36 5 (vs r) (wt r).length (ccalls (wt r))
  apart : ∀ r, r < 3 → ∀ g, (vs r).ownBlock = some g → g ≠ gm
  each : ∀ r q, r < 3 → q < 3 → r ≠ q → ∀ g, (vs r).ownBlock = some g → (vs q).ownBlock ≠ some g
/-- The model's blocks. -/
def MB (gm : Nat) (vs : Nat → Value) (k : Nat) : Prop := k = gm ∨ ∃ r, r < 3 ∧ (vs r).ownBlock = some k
section
variable {w w' : World} {b1 gm : Nat} {PC : Array Value} {dat : Nat → Nat → List UInt8} {wt : Nat → List CallD} {lf : Nat → Int} {vs : Nat → Value}
theorem Md.kept {S : Nat → Prop} (h : Md w b1 gm PC dat wt lf vs) (hk : Kept S w w') (hS : ∀ k, S k → ¬ MB gm vs k) : Md w' b1 gm PC dat wt lf vs :=
  ⟨hk.blk h.blk (fun hs => hS _ hs (.inl rfl)), h.size, h.dats, h.rows, h.lefts, fun r hr => hk.own (h.own r hr) (fun _ hk' hs => hS _ hs (.inr ⟨r, hr, hk'⟩)), h.apart, h.each⟩
theorem Md.below (h : Md w b1 gm PC dat wt lf vs) (hb : Below w.heap.size w w') : Md w' b1 gm PC dat wt lf vs := h.kept (Kept.of_below (S := fun _ => False) hb) (fun _ hc => hc.elim)
theorem Md.out {X : Nat → Prop} (h : Md w b1 gm PC dat wt lf vs) (ho : Out X w w') (hX : ∀ k, MB gm vs k → X k) : Md w' b1 gm PC dat wt lf vs := h.kept ho (fun _ hn hm => hn (hX _ hm))
/-- Row r, read. -/
theorem Md.row (h : Md w b1 gm PC dat wt lf vs) {r : Nat} (hr : r < 3) : ∃ A c, vs r = .slice A (wt r).length c ∧ PC[24 + r]? = some (.slice A (wt r).length c) ∧ CallsIn w A (wt r).length (wt r) ∧ A ≠ some ⟨gm, 0, none⟩ ∧ (∀ g, A = some ⟨g, 0, none⟩ → (vs r).ownBlock = some g) := by
  have ho := h.own r hr
  obtain ⟨A, c, e⟩ := own5_form ho
  have hp := h.rows r hr
  have ha := h.apart r hr
  rw [e] at ho hp ha ⊢
  refine ⟨A, c, rfl, hp, CallsIn.of_own ho, fun e2 => ?_, fun g e2 => by rw [e2]; rfl⟩
  exact ha gm (by rw [e2]; rfl) rfl
/-- Reading a sector of the model. -/
theorem Md.read (h : Md w b1 gm PC dat wt lf vs) {r s B : Nat} (hr : r < 3) (hs : s < 8) (hf : ∀ x ∈ wt r, x.Fit w B) (hB : B ≤ w.heap.size) (h64 : ∀ x ∈ wt r, x.data.length ≤ 64) (hd : (dat r s).length ≤ 64) (hn : (wt r).length ≤ 200) :
    Calls Try.prog 12 #[ptr gm, .int .i64 (r : Int), .int .i64 (s : Int)] w fun e w' => e = .returned (.string ⟨(pad (rdl (dat r s) (wt r) (s : Int))).toArray⟩) ∧ Below w.heap.size w w' := by
  obtain ⟨A, c, _, hp, hc, _, _⟩ := h.row hr
  exact mread hr hs (h.blk.cell _ _ (h.dats r s hr hs)) hd (h.blk.cell _ _ hp) rfl hc hf hB h64 hn
theorem kput_dat {m : Nat → Bool} {r : Nat} {cs : List CallD} (hs : ∀ x ∈ cs, 0 ≤ x.s ∧ x.s < 8) (hsz : PC.size = 30) (hr : r < 3) (hd : ∀ s, s < 8 → PC[r * 8 + s]? = some (.string ⟨(dat r s).toArray⟩)) : ∀ k, k ≤ cs.length → (∀ s, s < 8 → (kput m r cs PC k)[r * 8 + s]? = some (.string ⟨(kdat m cs (dat r) k s).toArray⟩)) ∧ ∀ j, (j < r * 8 ∨ r * 8 + 8 ≤ j) → (kput m r cs PC k)[j]? = PC[j]? := by
  intro k
  induction k with
  | zero => intro _; exact ⟨hd, fun _ _ => rfl⟩
  | succ k ih =>
    intro hk
    have hlt : k < cs.length := by omega
    obtain ⟨h1, h2⟩ := ih (by omega)
    have hx := hs _ (List.getElem_mem hlt)
    have e : cs.getD k default = cs[k] := by rw [List.getD_eq_getElem?_getD, List.getElem?_eq_getElem hlt]; rfl
    unfold kput kdat
    rw [e]
    split
    · refine ⟨fun s hs => ?_, fun j hj => ?_⟩
      · rw [Array.getElem?_setIfInBounds]
        dsimp only
        by_cases e2 : s = cs[k].s.toNat
        · rw [if_pos (by omega), if_pos (by rw [kput_size, hsz]; omega), if_pos e2]
        · rw [if_neg (by omega), if_neg e2]
          exact h1 s hs
      · rw [Array.getElem?_setIfInBounds, if_neg (by omega)]
        exact h2 j hj
    · exact ⟨h1, h2⟩
/-- Keeping, of one region. -/
theorem Md.keep (h : Md w b1 gm PC dat wt lf vs) {r B : Nat} (mask : Nat) (hr : r < 3) (hf : ∀ x ∈ wt r, x.Fit w B) (hB : B ≤ w.heap.size) (hBg : B ≤ gm) (hs : ∀ x ∈ wt r, 0 ≤ x.s ∧ x.s < 8) (hn : (wt r).length ≤ 200) :
    Calls Try.prog 7 #[ptr gm, .int .i64 (r : Int), .int .u64 (mask : Int)] w fun e w' => e = .returned (.tuple #[]) ∧ (∃ PC', Md w' b1 gm PC' (fun q => if q = r then kdat (bitOf mask) (wt r) (dat r) (wt r).length else dat q) (fun q => if q = r then [] else wt q) lf (fun q => if q = r then .slice none 0 0 else vs q)) ∧ Kept (fun k => k = gm) w w' := by
  obtain ⟨A, c, hv, hp, hc, hne, _⟩ := h.row hr
  refine (mkeep (mask := mask) hr h.blk h.size hp rfl hc hne hf hB hBg hs hn).mono ?_
  rintro e w' ⟨rfl, hb, hk⟩
  refine ⟨rfl, ⟨(kput (bitOf mask) r (wt r) PC (wt r).length).setIfInBounds (24 + r) (.slice none 0 0), ?_⟩, hk⟩
  obtain ⟨h1, h2⟩ := kput_dat (m := bitOf mask) hs h.size hr (fun s hs' => h.dats r s hr hs') (wt r).length (Nat.le_refl _)
  have hsz := (kput_size (bitOf mask) r (wt r) PC (wt r).length).trans h.size
  refine ⟨hb, by rw [Array.size_setIfInBounds]; exact hsz, fun q s hq hs' => ?_, fun q hq => ?_, fun q hq => ?_, fun q hq => ?_, fun q hq g hg => ?_, fun q q' hq hq' hne' g hg => ?_⟩
  · rw [Array.getElem?_setIfInBounds, if_neg (by omega)]
    by_cases e : q = r
    · subst e
      rw [if_pos rfl]
      exact h1 s hs'
    · rw [if_neg e, h2 _ (by omega)]
      exact h.dats q s hq hs'
  · rw [Array.getElem?_setIfInBounds]
    by_cases e : q = r
    · subst e
      rw [if_pos rfl, if_pos (by rw [hsz]; omega), if_pos rfl]
    · rw [if_neg (by omega), if_neg e, h2 _ (by omega)]
      exact h.rows q hq
  · rw [Array.getElem?_setIfInBounds, if_neg (by omega), h2 _ (by omega)]
    exact h.lefts q hq
  · by_cases e : q = r
    · rw [if_pos e, if_pos e]
      exact own5_nil _ _ _
    · rw [if_neg e, if_neg e]
      exact hk.own (h.own q hq) (fun k hk' e2 => h.apart q hq k hk' e2)
  · by_cases e : q = r
    · rw [if_pos e] at hg
      cases hg
    · rw [if_neg e] at hg
      exact h.apart q hq g hg
  · by_cases e : q = r
    · rw [if_pos e] at hg
      cases hg
    · rw [if_neg e] at hg
      by_cases e' : q' = r
      · rw [if_pos e']
        exact fun hc => by cases hc
      · rw [if_neg e']
        exact h.each q q' hq hq' hne' g hg
/-- 'left' of one region is set. -/
theorem Md.left_ (h : Md w b1 gm PC dat wt lf vs) {r : Nat} (hr : r < 3) (z : Int) : Md (w.setCell ⟨gm, 27 + r, none⟩ (.int .i64 z)) b1 gm (PC.setIfInBounds (27 + r) (.int .i64 z)) dat wt (fun q => if q = r then z else lf q) vs := by
  have hk := Kept.setCell w ⟨gm, 27 + r, none⟩ (.int .i64 z)
  refine ⟨h.blk.set_ _ _, by rw [Array.size_setIfInBounds]; exact h.size, fun q s hq hs => ?_, fun q hq => ?_, fun q hq => ?_, fun q hq => hk.own (h.own q hq) (fun k hk' e2 => h.apart q hq k hk' e2), h.apart, h.each⟩
  · rw [Array.getElem?_setIfInBounds, if_neg (by omega)]
    exact h.dats q s hq hs
  · rw [Array.getElem?_setIfInBounds, if_neg (by omega)]
    exact h.rows q hq
  · rw [Array.getElem?_setIfInBounds]
    by_cases e : q = r
    · subst e
      rw [if_pos rfl, if_pos (by rw [h.size]; omega), if_pos rfl]
    · rw [if_neg (by omega), if_neg e]
      exact h.lefts q hq
/-- A call more waits. -/
theorem Md.more (h : Md w b1 gm PC dat wt lf vs) {r : Nat} (hr : r < 3) {v' : Value} {x : CallD} (hlt : ∀ q, q < 3 → ∀ g, (vs q).ownBlock = some g → g < w.heap.size) (hown : w'.ownsRow b1 36 5 v' ((wt r).length + 1) (ccalls (wt r ++ [x]))) (hgr : w.grownBy w' (vs r).ownBlock) (hat : v'.ownBlock = (vs r).ownBlock ∨ v'.ownBlock = some w.heap.size) :
    Md (w'.setCell ⟨gm, 24 + r, none⟩ v') b1 gm (PC.setIfInBounds (24 + r) v') dat (fun q => if q = r then wt r ++ [x] else wt q) lf (fun q => if q = r then v' else vs q) := by
  have hk0 : Kept (fun k => (vs r).ownBlock = some k) w w' := Kept.of_grown hgr
  have hk := Kept.setCell w' ⟨gm, 24 + r, none⟩ v'
  have hgm : gm < w.heap.size := h.blk.lt
  have hva : ∀ g, v'.ownBlock = some g → g ≠ gm := by
    intro g hg
    rcases hat with e | e
    · exact h.apart r hr g (e ▸ hg)
    · rw [e] at hg
      injection hg with hg
      omega
  have hve : ∀ q, q < 3 → q ≠ r → ∀ g, v'.ownBlock = some g → (vs q).ownBlock ≠ some g := by
    intro q hq hne g hg hq'
    rcases hat with e | e
    · exact h.each r q hr hq (fun e2 => hne e2.symm) g (e ▸ hg) hq'
    · rw [e] at hg
      injection hg with hg
      have := hlt q hq g hq'
      omega
  refine ⟨(hk0.blk h.blk (fun e => h.apart r hr gm e rfl)).set_ _ _, by rw [Array.size_setIfInBounds]; exact h.size, fun q s hq hs => ?_, fun q hq => ?_, fun q hq => ?_, fun q hq => ?_, fun q hq g hg => ?_, fun q q' hq hq' hne' g hg => ?_⟩
  · rw [Array.getElem?_setIfInBounds, if_neg (by omega)]
    exact h.dats q s hq hs
  · rw [Array.getElem?_setIfInBounds]
    by_cases e : q = r
    · subst e
      rw [if_pos rfl, if_pos (by rw [h.size]; omega), if_pos rfl]
    · rw [if_neg (by omega), if_neg e]
      exact h.rows q hq
  · rw [Array.getElem?_setIfInBounds, if_neg (by omega)]
    exact h.lefts q hq
  · by_cases e : q = r
    · rw [if_pos e, if_pos e, List.length_append, List.length_singleton]
      exact hk.own hown (fun k hk' e2 => hva k hk' e2)
    · rw [if_neg e, if_neg e]
      exact hk.own (hk0.own (h.own q hq) (fun k hk' e2 => h.each q r hq hr e k hk' e2)) (fun k hk' e2 => h.apart q hq k hk' e2)
  · by_cases e : q = r
    · rw [if_pos e] at hg
      exact hva g hg
    · rw [if_neg e] at hg
      exact h.apart q hq g hg
  · by_cases e : q = r
    · rw [if_pos e] at hg
      rw [if_neg (fun e2 => hne' (e.trans e2.symm))]
      exact hve q' hq' (fun e2 => hne' (e.trans e2.symm)) g hg
    · rw [if_neg e] at hg
      by_cases e' : q' = r
      · rw [if_pos e']
        exact fun hc => hve q hq e g hc hg
      · rw [if_neg e']
        exact h.each q q' hq hq' hne' g hg
end
end Go.Proofs.Ythlclhfepnmaeaa
