/-
  A disk behind one write (memory alone; no walk).
-/
import Derived.Test.YthlclhfepnmaeaaDWrite
namespace Go.Proofs.Ythlclhfepnmaeaa
open Go.RowKit

def Ds.write (d : Ds) (i : Nat) (r : Rg) (s : Nat) (b : Sec) : Ds := ⟨d.size, d.regs.set i (r.write s b), d.writes + 1⟩
def Ds.barrier (d : Ds) (i : Nat) (r : Rg) : Ds := ⟨d.size, d.regs.set i r.barrier, d.writes⟩
def Ds.arm (d : Ds) (i : Nat) (r : Rg) (n : Int) : Ds := ⟨d.size, d.regs.set i (r.arm n), d.writes⟩
def Ds.crash (d : Ds) (m : Nat → Bool) : Ds := ⟨d.size, d.regs.map (Rg.crash m), d.writes⟩

/-- What a disk's call leaves of the rest. -/
def DkStep (w w' : World) (lab lab' : Nat → Nat) : Prop := Kept (fun k => lab k ≠ 0) w w' ∧ ∀ k, lab' k ≠ 0 → lab k ≠ 0 ∨ (w.heap.size ≤ k ∧ k < w'.heap.size)
theorem DkStep.refl (w : World) (lab : Nat → Nat) : DkStep w w lab lab := ⟨Kept.refl _ _, fun _ h => .inl h⟩

/-- A region's four cells are turned, and blocks of its own: the others are as they were. -/
theorem rg_others {w w' : World} {lab lab' : Nat → Nat} {cs cs' : Array Value} {i j n : Nat} {r : Rg} {S : Nat → Prop} (h : RgAt w lab cs j n r) (hij : j ≠ i) (hk : Kept S w w') (hS : ∀ k, S k → lab k = 1 ∨ lab k = 2 ∨ lab k = 3 + i * 2 ∨ lab k = 4 + i * 2)
    (hcs : ∀ p, p < i * 4 ∨ i * 4 + 4 ≤ p → cs'[p]? = cs[p]?) (hlab : ∀ k, k < w.heap.size → lab k ≠ 3 + i * 2 → lab k ≠ 4 + i * 2 → lab' k = lab k) : RgAt w' lab' cs' j n r := by
  obtain ⟨sb, pv, h0, h1, h2, h3, hl, hb, ho, hp, hf⟩ := h
  refine ⟨sb, pv, (hcs _ (by omega)).trans h0, (hcs _ (by omega)).trans h1, (hcs _ (by omega)).trans h2, (hcs _ (by omega)).trans h3, ?_, hk.blk hb (fun hc => ?_), hk.own ho (fun k hk' hc => ?_), fun k hk' => ?_, hf⟩
  · rw [hlab sb hb.lt (by omega) (by omega)]; exact hl
  · have := hS _ hc; omega
  · have := hS _ hc; have := hp k hk'; omega
  · have := hp k hk'
    rw [hlab k (own_lt ho hk') (by omega) (by omega)]; exact this

theorem dk_written {w w4 : World} {lab : Nat → Nat} {g : Nat} {d : Ds} {i s : Nat} {r : Rg} {b : Sec} (h : DkAt w lab g d) (hi : d.regs[i]? = some r) (hs : s < d.size) (hb64 : b.length = 64)
    {g2 sb : Nat} {cs : Array Value} {pv v : Value} (hg2 : lab g2 = 2) (hbg : Blk w g 52 #[.slice (some ⟨g2, 0, none⟩) d.regs.length d.regs.length, .int .i64 (d.writes : Int)]) (hcs : cs.size = d.regs.length * 4)
    (hall : ∀ i r, d.regs[i]? = some r → RgAt w lab cs i d.size r) (c0 : cs[i * 4]? = some (.slice (some ⟨sb, 0, none⟩) d.size d.size)) (c2 : cs[i * 4 + 2]? = some (.bool r.armed)) (hlsb : lab sb = 3 + i * 2)
    (hown : ∀ k, pv.ownBlock = some k → lab k = 4 + i * 2)
    (hrow : Blk w4 g2 56 (if r.armed then (cs.setIfInBounds (i * 4 + 1) v).setIfInBounds (i * 4 + 3) (.int .i64 ((r.left - 1 : Nat) : Int)) else cs.setIfInBounds (i * 4 + 1) v)) (c3 : cs[i * 4 + 3]? = some (.int .i64 (r.left : Int)))
    (hsec : Blk w4 sb 60 (blk8 (r.secs.set s b).flatten)) (hv : w4.ownsRow 0 64 129 v (r.ws.length + 1) (pcells r.pend ++ ccells ⟨s, r.secs.getD s zsec, b⟩))
    (hat : v.ownBlock = pv.ownBlock ∨ ∃ k, v.ownBlock = some k ∧ w.heap.size ≤ k) (hk : Kept (fun k => k = g2 ∨ k = sb ∨ pv.ownBlock = some k) w w4) (hfit : r.Fit d.size) :
    ∃ lab', DkAt (w4.setCell ⟨g, 1, none⟩ (.int .i64 ((d.writes + 1 : Nat) : Int))) lab' g (d.write i r s b) ∧ DkStep w (w4.setCell ⟨g, 1, none⟩ (.int .i64 ((d.writes + 1 : Nat) : Int))) lab lab' := by
  obtain ⟨hl, hg, hz, _⟩ := h
  have hilt : i < d.regs.length := (List.getElem?_eq_some_iff.1 hi).1
  have hK : Kept (fun k => k = g ∨ k = g2 ∨ k = sb ∨ pv.ownBlock = some k) w (w4.setCell ⟨g, 1, none⟩ (.int .i64 ((d.writes + 1 : Nat) : Int))) :=
    (hk.mono (fun k h => .inl (.inr h))).trans (Kept.setCell w4 ⟨g, 1, none⟩ _) (fun k h => .inl (.inl h))
  have hlabS : ∀ k, (k = g ∨ k = g2 ∨ k = sb ∨ pv.ownBlock = some k) → lab k = 1 ∨ lab k = 2 ∨ lab k = 3 + i * 2 ∨ lab k = 4 + i * 2 := by
    rintro k (rfl | rfl | rfl | h)
    · exact .inl hg
    · exact .inr (.inl hg2)
    · exact .inr (.inr (.inl hlsb))
    · exact .inr (.inr (.inr (hown k h)))
  have hvold : ∀ k, v.ownBlock = some k → k < w.heap.size → lab k = 4 + i * 2 := by
    intro k hk' hlt
    rcases hat with h | ⟨k', h, hle⟩
    · exact hown k (h ▸ hk')
    · rw [hk'] at h; injection h with h; omega
  have hgw : Blk w4 g 52 #[.slice (some ⟨g2, 0, none⟩) d.regs.length d.regs.length, .int .i64 (d.writes : Int)] := hk.blk hbg (fun hc => by
    have : lab g = 2 ∨ lab g = 3 + i * 2 ∨ lab g = 4 + i * 2 := by
      rcases hc with e | e | e
      · exact .inl (e ▸ hg2)
      · exact .inr (.inl (e ▸ hlsb))
      · exact .inr (.inr (hown g e))
    omega)
  have hdec : ∀ k, v.ownBlock = some k ∨ ¬ v.ownBlock = some k := fun k => Classical.em _
  refine ⟨fun k => if v.ownBlock = some k then 4 + i * 2 else lab k, ⟨fun k hk' => ?_, ?_, by simpa [Ds.write] using hz, g2, _, ?_, ?_, hrow.far (p := ⟨g, 1, none⟩) (fun e => ?_) _, ?_, fun j r' hj => ?_⟩, hK.mono (fun k h => ?_), fun k hk' => ?_⟩
  · show k < (w4.setCell _ _).heap.size
    simp only at hk'
    split at hk'
    · rename_i hvk
      have := own_lt hv hvk
      simpa [World.setCell] using this
    · exact Nat.lt_of_lt_of_le (hl k hk') hK.size
  · simp only
    rw [if_neg (fun hc => ?_)]
    · exact hg
    · have := hvold g hc hbg.lt; omega
  · simp only
    rw [if_neg (fun hc => ?_)]
    · exact hg2
    · have h2 : g2 < w.heap.size := hl g2 (by omega)
      have := hvold g2 hc h2; omega
  · have := hgw.set_ 1 (.int .i64 ((d.writes + 1 : Nat) : Int))
    simpa [Ds.write] using this
  · have : g2 = g := e
    rw [this, hg] at hg2; cases hg2
  · cases r.armed <;> simp [Ds.write, hcs]
  · simp only [Ds.write] at hj ⊢
    rw [List.getElem?_set] at hj
    by_cases hji : i = j
    · subst hji
      rw [if_pos rfl, if_pos hilt] at hj
      injection hj with hj
      subst hj
      have hcz : i * 4 + 3 < cs.size := by omega
      have hne4 : sb ≠ g := fun e => by rw [e, hg] at hlsb; omega
      refine ⟨sb, v, ?_, ?_, ?_, ?_, ?_, ?_, ?_, fun k hk' => by simp [hk'], hfit.write hs hb64⟩
      · cases r.armed
        · simp only [Bool.false_eq_true, if_false]; rw [Array.getElem?_setIfInBounds, if_neg (by omega)]; exact c0
        · simp only [if_true]; rw [Array.getElem?_setIfInBounds, if_neg (by omega), Array.getElem?_setIfInBounds, if_neg (by omega)]; exact c0
      · cases r.armed
        · simp only [Bool.false_eq_true, if_false]; rw [Array.getElem?_setIfInBounds, if_pos rfl, if_pos (by omega)]
        · simp only [if_true]; rw [Array.getElem?_setIfInBounds, if_neg (by omega), Array.getElem?_setIfInBounds, if_pos rfl, if_pos (by omega)]
      · have : (r.write s b).armed = r.armed := rfl
        rw [this, ← c2]
        cases r.armed
        · simp only [Bool.false_eq_true, if_false]; rw [Array.getElem?_setIfInBounds, if_neg (by omega)]
        · simp only [if_true]; rw [Array.getElem?_setIfInBounds, if_neg (by omega), Array.getElem?_setIfInBounds, if_neg (by omega)]
      · have : (r.write s b).left = if r.armed then r.left - 1 else r.left := rfl
        rw [this]
        cases r.armed
        · simp only [Bool.false_eq_true, if_false]; rw [Array.getElem?_setIfInBounds, if_neg (by omega)]; exact c3
        · simp only [if_true]; rw [Array.getElem?_setIfInBounds, if_pos rfl, if_pos (by simp; omega)]
      · simp only
        rw [if_neg (fun hc => ?_)]
        · exact hlsb
        · have := hvold sb hc (hl sb (by omega)); omega
      · rw [Rg.secs_write]
        exact hsec.far (p := ⟨g, 1, none⟩) hne4 _
      · rw [Rg.pend_write, pcells_append, pcells_one]
        have e : (r.write s b).ws.length = r.ws.length + 1 := by simp [Rg.write]
        rw [e]
        refine (Kept.setCell w4 ⟨g, 1, none⟩ _).own hv (fun k hk' hc => ?_)
        have hc' : k = g := hc
        subst hc'
        have := hvold k hk' hbg.lt; omega
    · rw [if_neg hji] at hj
      refine rg_others (i := i) (hall j r' hj) (fun e => hji e.symm) hK hlabS (fun p hp => ?_) (fun k hk' h3 h4 => ?_)
      · cases r.armed
        · simp only [Bool.false_eq_true, if_false]; rw [Array.getElem?_setIfInBounds, if_neg (by omega)]
        · simp only [if_true]; rw [Array.getElem?_setIfInBounds, if_neg (by omega), Array.getElem?_setIfInBounds, if_neg (by omega)]
      · exact if_neg (fun hc => h4 (hvold k hc hk'))
  · have := hlabS k h
    left; omega
  · simp only at hk'
    split at hk'
    · rename_i hvk
      by_cases hlt : k < w.heap.size
      · left; have := hvold k hvk hlt; omega
      · right; have := own_lt hv hvk; exact ⟨by omega, by simpa [World.setCell] using this⟩
    · exact .inl hk'
end Go.Proofs.Ythlclhfepnmaeaa
