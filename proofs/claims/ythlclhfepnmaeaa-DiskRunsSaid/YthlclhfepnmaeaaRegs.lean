/-
  Two disks that are the same in region 0; a call inside a region whose order is drawn.
-/
import Derived.Test.YthlclhfepnmaeaaCalls
import Derived.Test.YthlclhfepnmaeaaPhase
namespace Go.Proofs.Ythlclhfepnmaeaa
open Go.RowKit

/-- A call of a Go function, as an operation of such a region. -/
theorem wp_enters {P : Program} {ops : Array Oper} {Q : Exit → Act → World → Prop} {o : Oper} {a : Act} {w : World} {f : FuncId} {args : Array Value} {v : Value} {i : Nat} {L : Nat → Bool} {V : Nat → Value → Prop} {M : Phases} {R : World → Prop} (hrun : (execOp a.eval o).run P w = .ok (.enter f args) w)
    (hc : Calls P f args w fun e w' => e = .returned v ∧ R w') (hV : V i v) (hM : ∀ w', R w' → M (also L i) (yielding (got ops a) i v) w') :
    o.wp P a w (fun a' w' => ∃ v, a' = a.put o.dst v ∧ V i v ∧ M (also L i) (yielding (got ops a) i v) w') Q := by
  unfold Oper.wp
  rw [hrun, Oper.upon_enter]
  refine hc.mono ?_
  rintro e w' ⟨rfl, hr⟩
  exact ⟨v, rfl, hV, hM _ hr⟩

theorem and1 (x : Int) : bits .and .i64 x 1 = 0 ∨ bits .and .i64 x 1 = 1 := by
  obtain ⟨m, hm, e⟩ := and_low x 1 (by omega)
  have e' : bits .and .i64 x 1 = (m : Int) := e
  rw [e']
  omega
theorem at_wr {d : Ds} {q r s : Int} {b : List UInt8} (h0 : 0 ≤ q) (h1 : 0 ≤ r) (hne : q ≠ r) : (d.wr r s b).at? q = d.at? q := by
  unfold Ds.wr
  split
  · rfl
  · split
    · rfl
    · split
      · rfl
      · unfold Ds.at? Ds.write
        rw [if_neg (by omega), if_neg (by omega), List.getElem?_set, if_neg (by omega)]
theorem at_br {d : Ds} {q r : Int} (h0 : 0 ≤ q) (h1 : 0 ≤ r) (hne : q ≠ r) : (d.br r).at? q = d.at? q := by
  unfold Ds.br
  split
  · rfl
  · split
    · rfl
    · unfold Ds.at? Ds.barrier
      rw [if_neg (by omega), if_neg (by omega), List.getElem?_set, if_neg (by omega)]
theorem at0_set {d : Ds} {g g' : Rg} (h : d.at? 0 = some g) {n m : Nat} : (⟨n, d.regs.set (0 : Int).toNat g', m⟩ : Ds).at? 0 = some g' := by
  obtain ⟨i, hi, hlt, _⟩ := at_some h
  have h0 : i = 0 := by omega
  subst h0
  unfold Ds.at?
  rw [if_neg (by omega)]
  show (d.regs.set 0 g')[0]? = some g'
  rw [List.getElem?_set, if_pos rfl, if_pos hlt]
/-- The same in region 0. -/
def Pair (D E : Ds) : Prop := Shape D 2 8 ∧ Shape E 2 8 ∧ ∃ g, D.at? 0 = some g ∧ E.at? 0 = some g
theorem Pair.new : Pair ⟨8, List.replicate 2 (Rg.new 8), 0⟩ ⟨8, List.replicate 2 (Rg.new 8), 0⟩ := ⟨Shape.new 2 8, Shape.new 2 8, Rg.new 8, rfl, rfl⟩
theorem Pair.wr1 {D E : Ds} (h : Pair D E) (s : Int) (b : List UInt8) : Pair (D.wr 1 s b) E := by
  obtain ⟨h1, h2, g, h3, h4⟩ := h
  exact ⟨h1.wr _ _ _, h2, g, (at_wr (by omega) (by omega) (by omega)).trans h3, h4⟩
theorem Pair.br1 {D E : Ds} (h : Pair D E) : Pair (D.br 1) E := by
  obtain ⟨h1, h2, g, h3, h4⟩ := h
  exact ⟨h1.br _, h2, g, (at_br (by omega) (by omega) (by omega)).trans h3, h4⟩
theorem Pair.wr0 {D E : Ds} (h : Pair D E) (s : Int) (b : List UInt8) : Pair (D.wr 0 s b) (E.wr 0 s b) ∧ E.wrCode 0 s b.length = D.wrCode 0 s b.length := by
  obtain ⟨h1, h2, g, h3, h4⟩ := h
  refine ⟨⟨h1.wr _ _ _, h2.wr _ _ _, ?_⟩, ?_⟩
  · unfold Ds.wr
    rw [h3, h4]
    dsimp only
    rw [h1.2, h2.2]
    split
    · exact ⟨g, h3, h4⟩
    · split
      · exact ⟨g, h3, h4⟩
      · exact ⟨g.write s.toNat (pad b), at0_set h3, at0_set h4⟩
  · unfold Ds.wrCode
    rw [h3, h4]
    dsimp only
    rw [h1.2, h2.2]
theorem Pair.br0 {D E : Ds} (h : Pair D E) : Pair (D.br 0) (E.br 0) ∧ E.brCode 0 = D.brCode 0 := by
  obtain ⟨h1, h2, g, h3, h4⟩ := h
  refine ⟨⟨h1.br _, h2.br _, ?_⟩, ?_⟩
  · unfold Ds.br
    rw [h3, h4]
    dsimp only
    split
    · exact ⟨g, h3, h4⟩
    · exact ⟨g.barrier, at0_set h3, at0_set h4⟩
  · unfold Ds.brCode
    rw [h3, h4]
theorem Pair.crash {D E : Ds} (h : Pair D E) (f : Nat → Bool) : Pair (D.crash f) (E.crash f) := by
  obtain ⟨h1, h2, g, h3, h4⟩ := h
  have hc : ∀ {d : Ds}, d.at? 0 = some g → (d.crash f).at? 0 = some (g.crash f) := by
    intro d hd
    obtain ⟨i, hi, hlt, hg⟩ := at_some hd
    have h0 : i = 0 := by omega
    subst h0
    unfold Ds.at? Ds.crash
    rw [if_neg (by omega)]
    show (d.regs.map (Rg.crash f))[0]? = _
    rw [List.getElem?_map, hg]
    rfl
  exact ⟨h1.crash _, h2.crash _, g.crash f, hc h3, hc h4⟩
theorem Pair.sec {D E : Ds} (h : Pair D E) (s : Int) : sec E 0 s = sec D 0 s := by
  obtain ⟨h1, h2, g, h3, h4⟩ := h
  unfold Proofs.Ythlclhfepnmaeaa.sec Ds.rd?
  rw [h3, h4]
  dsimp only
  rw [h1.2, h2.2]
section
variable {w : World} {X : Nat → Prop} {g h : Nat} {D E : Ds}
theorem rg_new1 (hm : Many w X []) : Calls Try.prog 5 #[.int .i64 2, .int .i64 8] w fun e w' => ∃ g, e = .returned (ptr g) ∧ Many w' X [(g, ⟨8, List.replicate 2 (Rg.new 8), 0⟩)] ∧ Below w.heap.size w w' := new_many hm 2 8 (by omega) (by omega) (by omega) (by omega)
theorem rg_new2 (hm : Many w X [(g, D)]) : Calls Try.prog 5 #[.int .i64 2, .int .i64 8] w fun e w' => ∃ h, e = .returned (ptr h) ∧ Many w' X [(g, D), (h, ⟨8, List.replicate 2 (Rg.new 8), 0⟩)] ∧ Below w.heap.size w w' := new_many hm 2 8 (by omega) (by omega) (by omega) (by omega)
theorem rg_w1 (hm : Many w X [(g, D), (h, E)]) (hs : Small D 1000000) (r s : Int) {A : Option Addr} {n c B : Nat} {b : List UInt8} (hn : b.length = n) (hv : Row w B (.slice A n c) (u8s b)) (hB : B ≤ w.heap.size) :
    Calls Try.prog 6 #[ptr g, .int .i64 r, .int .i64 s, .slice A n c] w fun e w' => e = .returned (.int .i64 (D.wrCode r s b.length)) ∧ Many w' X [(g, D.wr r s b), (h, E)] ∧ Out X w w' := m_write 0 hm rfl hs r s hn hv hB
theorem rg_w2 (hm : Many w X [(g, D), (h, E)]) (hs : Small E 1000000) (r s : Int) {A : Option Addr} {n c B : Nat} {b : List UInt8} (hn : b.length = n) (hv : Row w B (.slice A n c) (u8s b)) (hB : B ≤ w.heap.size) :
    Calls Try.prog 6 #[ptr h, .int .i64 r, .int .i64 s, .slice A n c] w fun e w' => e = .returned (.int .i64 (E.wrCode r s b.length)) ∧ Many w' X [(g, D), (h, E.wr r s b)] ∧ Out X w w' := m_write 1 hm rfl hs r s hn hv hB
theorem rg_b1 (hm : Many w X [(g, D), (h, E)]) (r : Int) : Calls Try.prog 8 #[ptr g, .int .i64 r] w fun e w' => e = .returned (.int .i64 (D.brCode r)) ∧ Many w' X [(g, D.br r), (h, E)] ∧ Out X w w' := barrier_many (i := 0) hm rfl r
theorem rg_b2 (hm : Many w X [(g, D), (h, E)]) (r : Int) : Calls Try.prog 8 #[ptr h, .int .i64 r] w fun e w' => e = .returned (.int .i64 (E.brCode r)) ∧ Many w' X [(g, D), (h, E.br r)] ∧ Out X w w' := barrier_many (i := 1) hm rfl r
theorem rg_c1 (hm : Many w X [(g, D), (h, E)]) (hs : Small D 1000000) (m : Nat) : Calls Try.prog 9 #[ptr g, .int .u64 (m : Int)] w fun e w' => e = .returned (.tuple #[]) ∧ Many w' X [(g, D.crash (bitOf m)), (h, E)] ∧ Out X w w' := crash_many (i := 0) hm rfl hs m
theorem rg_c2 (hm : Many w X [(g, D), (h, E)]) (hs : Small E 1000000) (m : Nat) : Calls Try.prog 9 #[ptr h, .int .u64 (m : Int)] w fun e w' => e = .returned (.tuple #[]) ∧ Many w' X [(g, D), (h, E.crash (bitOf m))] ∧ Out X w w' := crash_many (i := 1) hm rfl hs m
theorem rg_r1 (hm : Many w X [(g, D), (h, E)]) (hd : Pair D E) {k : Nat} (hk : k < 8) : Calls Try.prog 11 #[ptr g, .int .i64 0, .int .i64 (k : Int)] w fun e w' => e = .returned (.tuple #[.slice (some ⟨w.heap.size, 0, none⟩) 64 64, .int .i64 0]) ∧ (sec D 0 (k : Int)).length = 64 ∧ Blk w' w.heap.size 5 (blk8 (sec D 0 (k : Int))) ∧ Many w' X [(g, D), (h, E)] ∧ Below w.heap.size w w' :=
  m_read 0 hm rfl hd.1 (Int.le_refl _) (by decide) (by omega) (by omega)
theorem rg_r2 (hm : Many w X [(g, D), (h, E)]) (hd : Pair D E) {k : Nat} (hk : k < 8) : Calls Try.prog 11 #[ptr h, .int .i64 0, .int .i64 (k : Int)] w fun e w' => e = .returned (.tuple #[.slice (some ⟨w.heap.size, 0, none⟩) 64 64, .int .i64 0]) ∧ (sec D 0 (k : Int)).length = 64 ∧ Blk w' w.heap.size 5 (blk8 (sec D 0 (k : Int))) ∧ Many w' X [(g, D), (h, E)] ∧ Below w.heap.size w w' := by
  have := m_read 1 hm rfl hd.2.1 (r := 0) (s := (k : Int)) (Int.le_refl _) (by decide) (by omega) (by omega)
  rw [hd.sec] at this
  exact this
end
end Go.Proofs.Ythlclhfepnmaeaa
