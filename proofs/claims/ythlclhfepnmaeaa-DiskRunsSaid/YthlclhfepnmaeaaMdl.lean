/-
  The model of DiskRuns: what it holds, in memory and in the mind; that it is the disk.
-/
import Derived.Test.YthlclhfepnmaeaaKeep
namespace Go.Proofs.Ythlclhfepnmaeaa
open Go.RowKit

/-- What lasts behind k calls of those that wait. -/
def kdat (m : Nat → Bool) (cs : List CallD) (d : Nat → List UInt8) : Nat → Nat → List UInt8
  | 0 => d
  | k + 1 => if m k then fun s => if s = (cs.getD k default).s.toNat then (cs.getD k default).data else kdat m cs d k s else kdat m cs d k
/-- The same, as the disk has it. -/
def wsof (cs : List CallD) : List (Nat × Sec) := cs.map fun x => (x.s.toNat, pad x.data)
theorem wsof_length (cs : List CallD) : (wsof cs).length = cs.length := List.length_map ..
theorem wsof_snoc (cs : List CallD) (x : CallD) : wsof (cs ++ [x]) = wsof cs ++ [(x.s.toNat, pad x.data)] := by simp [wsof]
theorem wsof_take {cs : List CallD} {k : Nat} (h : k < cs.length) : wsof (cs.take (k + 1)) = wsof (cs.take k) ++ [(cs[k].s.toNat, pad cs[k].data)] := by
  rw [List.take_succ_eq_append_getElem h, wsof_snoc]
/-- Sector by sector what lasts is what the disk has. -/
def Same8 (base : List Sec) (d : Nat → List UInt8) : Prop := base.length = 8 ∧ ∀ s, s < 8 → base[s]? = some (pad (d s))
theorem Same8.set {base : List Sec} {d : Nat → List UInt8} (h : Same8 base d) {p : Nat} (hp : p < 8) (l : List UInt8) : Same8 (base.set p (pad l)) (fun s => if s = p then l else d s) := by
  refine ⟨by rw [List.length_set]; exact h.1, fun s hs => ?_⟩
  rw [List.getElem?_set]
  by_cases e : p = s
  · subst e
    rw [if_pos rfl, if_pos (by rw [h.1]; exact hp)]
    simp
  · rw [if_neg e]
    have e2 : ¬ s = p := fun e3 => e e3.symm
    simp only [e2, if_false]
    exact h.2 s hs
theorem Same8.kept {base : List Sec} {d : Nat → List UInt8} (h : Same8 base d) (m : Nat → Bool) (cs : List CallD) (hs : ∀ x ∈ cs, 0 ≤ x.s ∧ x.s < 8) : ∀ k, k ≤ cs.length → Same8 (put base (kept m (wsof (cs.take k)))) (kdat m cs d k) := by
  intro k
  induction k with
  | zero => intro _; exact h
  | succ k ih =>
    intro hk
    have hlt : k < cs.length := by omega
    have ihk := ih (by omega)
    have e : cs.getD k default = cs[k] := by rw [List.getD_eq_getElem?_getD, List.getElem?_eq_getElem hlt]; rfl
    rw [wsof_take hlt, kept_snoc, wsof_length, List.length_take, Nat.min_eq_left (by omega)]
    unfold kdat
    rw [e]
    cases m k
    · simpa using ihk
    · simp only [if_true]
      rw [put_snoc]
      have hx := hs _ (List.getElem_mem hlt)
      exact ihk.set (by omega) _
theorem Same8.put {base : List Sec} {d : Nat → List UInt8} (h : Same8 base d) (cs : List CallD) (hs : ∀ x ∈ cs, 0 ≤ x.s ∧ x.s < 8) {p : Nat} (hp : p < 8) : ∀ k, k ≤ cs.length → (Go.Proofs.Ythlclhfepnmaeaa.put base (wsof (cs.take k)))[p]? = some (pad (rdl (d p) (cs.take k) (p : Int))) := by
  intro k
  induction k with
  | zero => intro _; exact h.2 p hp
  | succ k ih =>
    intro hk
    have hlt : k < cs.length := by omega
    have ihk := ih (by omega)
    rw [wsof_take hlt, put_snoc, rdl_next _ hlt _ rfl, List.getElem?_set]
    have hx := hs _ (List.getElem_mem hlt)
    have hl : (Go.Proofs.Ythlclhfepnmaeaa.put base (wsof (cs.take k))).length = 8 := (put_length _ _).trans h.1
    by_cases e : cs[k].s = (p : Int)
    · have e2 : cs[k].s.toNat = p := by omega
      rw [if_pos e2, if_pos (by omega), if_pos e]
    · rw [if_neg (by omega), if_neg e]
      exact ihk
theorem kept_every (ws : List (Nat × Sec)) : kept (bitOf 18446744073709551615) ws = ws := by
  have hb : ∀ i, bitOf 18446744073709551615 i = true := by
    intro i
    unfold bitOf
    have h : ∀ j, j < 64 → Nat.testBit 18446744073709551615 j = true := by decide +kernel
    exact h _ (Nat.mod_lt _ (by omega))
  unfold kept
  rw [List.filter_eq_self.2 (fun x _ => hb _)]
  exact List.zipIdx_map_fst 0 ws

/-- A region of the disk is one of the model. -/
structure Is (rg : Rg) (d : Nat → List UInt8) (cs : List CallD) (lf : Int) : Prop where
  base : Same8 rg.base d
  ws : rg.ws = wsof cs
  left : (rg.armed = false ∧ lf = -1) ∨ (rg.armed = true ∧ lf = (rg.left : Int))
  okc : ∀ x ∈ cs, 0 ≤ x.s ∧ x.s < 8 ∧ x.data.length ≤ 64
  okd : ∀ s, s < 8 → (d s).length ≤ 64
theorem Is.new : Is (Rg.new 8) (fun _ => []) [] (-1) := ⟨⟨rfl, fun s hs => by
  show (List.replicate 8 zsec)[s]? = some (pad [])
  rw [List.getElem?_replicate, if_pos hs]
  rfl⟩, rfl, .inl ⟨rfl, rfl⟩, fun _ h => (by cases h), fun _ _ => Nat.zero_le _⟩
theorem Is.down {rg : Rg} {d : Nat → List UInt8} {cs : List CallD} {lf : Int} (h : Is rg d cs lf) : rg.down = decide (lf = 0) := by
  unfold Rg.down
  rcases h.left with ⟨h1, h2⟩ | ⟨h1, h2⟩
  · rw [h1, h2]
    rfl
  · rw [h1, h2]
    by_cases e : rg.left = 0
    · simp [e]
    · simp [e]
theorem kdat_len {m : Nat → Bool} {cs : List CallD} {d : Nat → List UInt8} (hd : ∀ s, s < 8 → (d s).length ≤ 64) (hc : ∀ x ∈ cs, x.data.length ≤ 64) : ∀ k, k ≤ cs.length → ∀ s, s < 8 → (kdat m cs d k s).length ≤ 64 := by
  intro k
  induction k with
  | zero => intro _; exact hd
  | succ k ih =>
    intro hk s hs
    have hlt : k < cs.length := by omega
    have e : cs.getD k default = cs[k] := by rw [List.getD_eq_getElem?_getD, List.getElem?_eq_getElem hlt]; rfl
    unfold kdat
    rw [e]
    split
    · dsimp only
      split
      · exact hc _ (List.getElem_mem hlt)
      · exact ih (by omega) s hs
    · exact ih (by omega) s hs
theorem Is.secs {rg : Rg} {d : Nat → List UInt8} {cs : List CallD} {lf : Int} (h : Is rg d cs lf) {p : Nat} (hp : p < 8) : rg.secs[p]? = some (pad (rdl (d p) cs (p : Int))) := by
  have := h.base.put cs (fun x hx => ⟨(h.okc x hx).1, (h.okc x hx).2.1⟩) hp cs.length (Nat.le_refl _)
  rw [List.take_length] at this
  unfold Rg.secs
  rw [h.ws]
  exact this
theorem Is.kept {rg : Rg} {d : Nat → List UInt8} {cs : List CallD} {lf : Int} (h : Is rg d cs lf) (m : Nat → Bool) : Same8 (Go.Proofs.Ythlclhfepnmaeaa.put rg.base (Go.Proofs.Ythlclhfepnmaeaa.kept m rg.ws)) (kdat m cs d cs.length) := by
  have := h.base.kept m cs (fun x hx => ⟨(h.okc x hx).1, (h.okc x hx).2.1⟩) cs.length (Nat.le_refl _)
  rw [List.take_length] at this
  rw [h.ws]
  exact this
theorem Is.crash {rg : Rg} {d : Nat → List UInt8} {cs : List CallD} {lf : Int} (h : Is rg d cs lf) (m : Nat → Bool) : Is (rg.crash m) (kdat m cs d cs.length) [] (-1) :=
  ⟨h.kept m, rfl, .inl ⟨rfl, rfl⟩, fun _ hx => (by cases hx), kdat_len h.okd (fun x hx => (h.okc x hx).2.2) _ (Nat.le_refl _)⟩
theorem Is.barrier {rg : Rg} {d : Nat → List UInt8} {cs : List CallD} {lf : Int} (h : Is rg d cs lf) : Is rg.barrier (kdat (bitOf 18446744073709551615) cs d cs.length) [] lf := by
  have hk := h.kept (bitOf 18446744073709551615)
  rw [kept_every] at hk
  exact ⟨hk, rfl, h.left, fun _ hx => (by cases hx), kdat_len h.okd (fun x hx => (h.okc x hx).2.2) _ (Nat.le_refl _)⟩
theorem Is.arm {rg : Rg} {d : Nat → List UInt8} {cs : List CallD} {lf : Int} (h : Is rg d cs lf) (n : Int) : Is (rg.arm n) d cs (if n > 0 then n else 0) := by
  refine ⟨h.base, h.ws, .inr ⟨rfl, ?_⟩, h.okc, h.okd⟩
  show _ = ((n.toNat : Nat) : Int)
  split <;> omega
theorem Is.write {rg : Rg} {d : Nat → List UInt8} {cs : List CallD} {lf : Int} (h : Is rg d cs lf) (hd : lf ≠ 0) {x : CallD} (hx : 0 ≤ x.s ∧ x.s < 8 ∧ x.data.length ≤ 64) : Is (rg.write x.s.toNat (pad x.data)) d (cs ++ [x]) (if lf > 0 then lf - 1 else lf) := by
  refine ⟨h.base, by show rg.ws ++ _ = _; rw [h.ws, wsof_snoc], ?_, fun y hy => ?_, h.okd⟩
  · rcases h.left with ⟨h1, h2⟩ | ⟨h1, h2⟩
    · exact .inl ⟨h1, by rw [h2]; rfl⟩
    · refine .inr ⟨h1, ?_⟩
      show _ = (((if rg.armed then rg.left - 1 else rg.left) : Nat) : Int)
      rw [h1, if_pos rfl, if_pos (by omega)]
      omega
  · rcases List.mem_append.1 hy with hy | hy
    · exact h.okc y hy
    · rw [List.mem_singleton.1 hy]
      exact hx
end Go.Proofs.Ythlclhfepnmaeaa
