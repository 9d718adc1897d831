/-
  A call, boxed; disks of one shape; a range of calls.
-/
import Derived.Test.YthlclhfepnmaeaaFit
import Derived.Test.YthlclhfepnmaeaaSpec
import Derived.Test.YthlclhfepnmaeaaConv
import Derived.Test.YthlclhfepnmaeaaArgs
namespace Go.Proofs.Ythlclhfepnmaeaa
open Go.RowKit

theorem infoCall : (Try.prog.info? 36).map (·.size) = some 5 := by kernel_rfl
/-- A cell block just made and stored to whole. -/
theorem store_box {ops : Array Oper} {rest : List Oper} {op : Oper} {a : Act} {w : World} {Q : Exit → Act → World → Prop} (ty : TypeId) (x y : Operand) (n : Nat) (z cells : Array Value) (hgd : op.guard = none) (ho : op.op = .store ty x y) (hz : z.size = n) (hc : cells.size = n)
    (hx : a.eval x = .pointer (some ⟨w.heap.size, 0, none⟩)) (hy : a.eval y = .agg cells) (hi : (Try.prog.info? ty).map (·.size) = some n) (h1 : cells.all (·.oneCell') = true)
    (h : ∀ W, Below w.heap.size w W → W.heap.size = w.heap.size + 1 → Blk W w.heap.size ty cells → wpList Try.prog ops Q rest (a.put op.dst undef) W) : wpList Try.prog ops Q (op :: rest) a (w.alloc (.cells z ty)) := by
  have hb := Blk.new_ w z ty rfl
  refine wpList_store_mid hgd ty x y ho w.heap.size 0 cells hx hy (hb.there (by omega)) (by rw [hi, hc]) h1 ?_
  refine h _ (((Kept.alloc (fun _ => False) w (.cells z ty)).trans (Kept.setCells _ _ _ _) (fun i hi => .inr (by rw [show i = _ from hi]; exact Nat.le_refl _))).below (Nat.le_refl _) (fun _ hc => hc.elim)) ?_ ?_
  · rw [setCells_size]; simp
  · have := Blk.setCells cells.toList 0 _ _ hb (by simp; omega)
    have e : (z.toList.take 0 ++ (cells.toList ++ z.toList.drop (0 + cells.toList.length))).toArray = cells := by
      have : z.toList.drop (0 + cells.toList.length) = [] := List.drop_eq_nil_of_le (by simp; omega)
      rw [this]
      simp
    rw [e] at this
    exact this

/-- What is to be known of call k. -/
theorem call_at {w wr : World} {B k : Nat} {v : Value} {cs : List CallD} (hv : CallRow w B v cs) (hb : Below B w wr) (hk : k < cs.length) : ∃ b o cap, v = .slice (some ⟨b, o, none⟩) cs.length cap ∧ ∃ kd r s A n c l mask, cs[k] = ⟨kd, r, s, .slice A n c, l, mask⟩ ∧ l.length = n ∧ n ≤ maxLen ∧ mask < 18446744073709551616 ∧
    wr.rangeAt b (o + k * 5) [.int .i64 kd, .int .i64 r, .int .i64 s, .slice A n c, .int .u64 (mask : Int)] ∧ Row wr B (.slice A n c) (u8s l) ∧ (-9223372036854775808 ≤ kd ∧ kd < 9223372036854775808) ∧ (-9223372036854775808 ≤ r ∧ r < 9223372036854775808) ∧ (-9223372036854775808 ≤ s ∧ s < 9223372036854775808) := by
  obtain ⟨A0, cap, rfl, hcells, hall⟩ := hv
  obtain ⟨b, o, rfl, hbB, hcell⟩ := hcells (by omega)
  have hf := hall cs[k] (List.getElem_mem hk)
  refine ⟨b, o, cap, rfl, ?_⟩
  obtain ⟨x, hx⟩ : ∃ x, cs[k] = x := ⟨_, rfl⟩
  rw [hx] at hf
  have hc := hcell k x (by rw [List.getElem?_eq_getElem hk, hx])
  obtain ⟨kd, r, s, dv, l, mask⟩ := x
  obtain ⟨hrow, hlen, hmask, hr, hs, hkd⟩ := hf
  obtain ⟨A, c, he, h1, h2⟩ := id hrow
  dsimp only at he
  subst he
  rw [u8s_length] at hrow hx hc
  refine ⟨kd, r, s, A, l.length, c, l, mask, hx, rfl, hlen, hmask, fun j u hu => ?_, by rw [← u8s_length l] at hrow ⊢; exact hrow.below hb, hkd, hr, hs⟩
  exact (hb.cell (p := ⟨b, o + k * 5 + j, none⟩) hbB).trans (hc j u hu)
theorem all_call (kd r s : Int) (A : Option Addr) (n c : Nat) (m : Int) : (#[.int .i64 kd, .int .i64 r, .int .i64 s, .slice A n c, .int .u64 m] : Array Value).all (·.oneCell') = true := by simp [Value.oneCell']
/-- How many regions, how many sectors. -/
def Shape (d : Ds) (n m : Nat) : Prop := d.regs.length = n ∧ d.size = m
theorem Shape.new (n m : Nat) : Shape ⟨m, List.replicate n (Rg.new m), 0⟩ n m := ⟨by simp, rfl⟩
theorem Shape.wr {d : Ds} {n m : Nat} (h : Shape d n m) (r s : Int) (b : List UInt8) : Shape (d.wr r s b) n m := by
  unfold Ds.wr
  split
  · exact h
  · split
    · exact h
    · split
      · exact h
      · exact ⟨by show (List.set _ _ _).length = n; rw [List.length_set]; exact h.1, h.2⟩
theorem Shape.br {d : Ds} {n m : Nat} (h : Shape d n m) (r : Int) : Shape (d.br r) n m := by
  unfold Ds.br
  split
  · exact h
  · split
    · exact h
    · exact ⟨by show (List.set _ _ _).length = n; rw [List.length_set]; exact h.1, h.2⟩
theorem Shape.crash {d : Ds} {n m : Nat} (h : Shape d n m) (f : Nat → Bool) : Shape (d.crash f) n m := ⟨by show (List.map _ _).length = n; rw [List.length_map]; exact h.1, h.2⟩
theorem crash_crash (d : Ds) (f f2 : Nat → Bool) : (d.crash f).crash f2 = d.crash f := by
  unfold Ds.crash
  simp only [List.map_map]
  rfl
theorem waits_crash (d : Ds) (f : Nat → Bool) (r : Int) : (d.crash f).waits r = 0 := by
  unfold Ds.waits
  split
  · rfl
  · rename_i g hg
    obtain ⟨i, _, _, hi⟩ := at_some hg
    obtain ⟨x, _, rfl⟩ := List.mem_map.1 (List.mem_of_getElem? hi)
    rfl
/-- A sector that is there. -/
def sec (d : Ds) (r s : Int) : Sec := (d.rd? r s).getD zsec
theorem rd_is {w : World} {X : Nat → Prop} {l : List (Nat × Ds)} {i g n m : Nat} {d : Ds} (h : Many w X l) (hi : l[i]? = some (g, d)) (hd : Shape d n m) {r s : Int} (hr : 0 ≤ r) (hr2 : r < (n : Int)) (hs : 0 ≤ s) (hs2 : s < (m : Int)) : d.rd? r s = some (sec d r s) := by
  obtain ⟨lab, _, _, _, g2, cs, _, _, _, _, hall⟩ := many_at h hi
  obtain ⟨j, rfl⟩ : ∃ j : Nat, r = (j : Int) := ⟨r.toNat, by omega⟩
  have hj : j < d.regs.length := by have := hd.1; omega
  have hat : d.at? (j : Int) = some d.regs[j] := by rw [at_nat, List.getElem?_eq_getElem hj]
  obtain ⟨_, _, _, _, _, _, _, _, _, _, hf⟩ := hall j _ (List.getElem?_eq_getElem hj)
  have := hf.secs_length
  have hsz := hd.2
  unfold sec
  rw [rd_some hat hs (by omega), List.getElem?_eq_getElem (by omega)]
  rfl
section
variable {w : World} {X : Nat → Prop} {l : List (Nat × Ds)} {g n m : Nat} {d : Ds}
theorem m_write (i : Nat) (h : Many w X l) (hi : l[i]? = some (g, d)) (hs : Small d 1000000) (r s : Int) {A : Option Addr} {n c B : Nat} {b : List UInt8} (hn : b.length = n) (hv : Row w B (.slice A n c) (u8s b)) (hB : B ≤ w.heap.size) :
    Calls Try.prog 6 #[ptr g, .int .i64 r, .int .i64 s, .slice A n c] w fun e w' => e = .returned (.int .i64 (d.wrCode r s b.length)) ∧ Many w' X (l.set i (g, d.wr r s b)) ∧ Out X w w' := by
  subst hn
  exact write_many h hi hs r s A c b (hv.more hB)
theorem m_read (i : Nat) (h : Many w X l) (hi : l[i]? = some (g, d)) (hd : Shape d n m) {r s : Int} (hr : 0 ≤ r) (hr2 : r < (n : Int)) (hs : 0 ≤ s) (hs2 : s < (m : Int)) :
    Calls Try.prog 11 #[ptr g, .int .i64 r, .int .i64 s] w fun e w' => e = .returned (.tuple #[.slice (some ⟨w.heap.size, 0, none⟩) 64 64, .int .i64 0]) ∧ (sec d r s).length = 64 ∧ Blk w' w.heap.size 5 (blk8 (sec d r s)) ∧ Many w' X l ∧ Below w.heap.size w w' :=
  read_many h hi r s (rd_is h hi hd hr hr2 hs hs2)
end
theorem blk_below {w w' : World} {g : Nat} {t : TypeId} {cs : Array Value} (hx : Blk w g t cs) (hb : Below w.heap.size w w') : Blk w' g t cs := (hb.block _ hx.lt).trans hx
/-- A parameter's box. -/
theorem box_facts {w w1 : World} {cs : Array Value} {t : TypeId} (hb : Below (w.alloc (.cells cs t)).heap.size (w.alloc (.cells cs t)) w1) : Below w.heap.size w w1 ∧ w.heap.size + 1 ≤ w1.heap.size ∧ Blk w1 w.heap.size t cs := by
  have hs : (w.alloc (.cells cs t)).heap.size = w.heap.size + 1 := by simp
  refine ⟨((Below.refl _ w).alloc (Nat.le_refl _) _).trans (hb.mono (by omega)), by have := hb.size; omega, ?_⟩
  exact (hb.block _ (by omega)).trans (Blk.new_ w cs t rfl)
/-- The block of the loop's variable is told apart too. -/
theorem many_box {w W : World} {B : Nat} {l : List (Nat × Ds)} (h : Many w (fun k => k < B) l) (hb : Below w.heap.size w W) (hs : W.heap.size = w.heap.size + 1) : Many W (fun k => k < B ∨ k = w.heap.size) l := h.more hb (fun k hk => by
  rcases hk with hk | hk
  · exact .inl hk
  · exact .inr ⟨by omega, by omega⟩)
theorem many_unbox {w : World} {B n : Nat} {l : List (Nat × Ds)} (h : Many w (fun k => k < B ∨ k = n) l) : Many w (fun k => k < B) l := h.more (Below.refl _ _) (fun _ hk => .inl (.inl hk))
end Go.Proofs.Ythlclhfepnmaeaa
