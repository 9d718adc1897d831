/-
  Memory: a slice that reads as a list (nil let in); a slice of bytes; what keeps such a reading.
-/
import Derived.WalkKit
import Derived.ProofKit
import Derived.Deep.Draws
import Derived.Deep.OwnRows
namespace Go.Proofs.Ytofnldmbokdkbaa
open Go.ChangeShapes Go.WideShapes Go.ChangeAt Go.RowKit

/-- A fact laid behind a name, out of the walk's sight. -/
theorem hide {p : Prop} (h : p) : Hid p := h
/-- v is a slice whose elements, one cell each, are xs; its array lies below block B. -/
def Row (w : World) (B : Nat) (v : Value) (xs : List Value) : Prop :=
  ∃ A c, v = .slice A xs.length c ∧ xs.length ≤ c ∧ (0 < xs.length → ∃ b o, A = some ⟨b, o, none⟩ ∧ b < B ∧ ∀ j u, xs[j]? = some u → w.cell? ⟨b, o + j, none⟩ = some u)
/-- Bytes as cells hold them. -/
def u8s (l : List UInt8) : List Value := l.map fun x => .int .u8 (x.toNat : Int)
theorem u8s_length (l : List UInt8) : (u8s l).length = l.length := List.length_map ..
theorem u8s_get (l : List UInt8) (j : Nat) (h : j < l.length) : (u8s l)[j]? = some (.int .u8 (l[j].toNat : Int)) := by
  simp [u8s, h]
theorem u8s_take (l : List UInt8) (k : Nat) : u8s (l.take k) = (u8s l).take k := by simp [u8s]
theorem u8s_drop (l : List UInt8) (k : Nat) : u8s (l.drop k) = (u8s l).drop k := by simp [u8s]
theorem u8s_append (a b : List UInt8) : u8s (a ++ b) = u8s a ++ u8s b := List.map_append ..

section
variable {w w' : World} {B B' : Nat} {v : Value} {xs : List Value}
theorem Row.keep (h : Row w B v xs) (hk : ∀ p : Addr, p.block < B → w'.cell? p = w.cell? p) : Row w' B v xs := by
  obtain ⟨A, c, rfl, hc, hr⟩ := h
  refine ⟨A, c, rfl, hc, fun hn => ?_⟩
  obtain ⟨b, o, rfl, hb, hcell⟩ := hr hn
  exact ⟨b, o, rfl, hb, fun j u hu => (hk _ hb).trans (hcell j u hu)⟩
theorem Row.more (h : Row w B v xs) (hB : B ≤ B') : Row w B' v xs := by
  obtain ⟨A, c, rfl, hc, hr⟩ := h
  refine ⟨A, c, rfl, hc, fun hn => ?_⟩
  obtain ⟨b, o, rfl, hb, hcell⟩ := hr hn
  exact ⟨b, o, rfl, by omega, hcell⟩
theorem Row.below (h : Row w B v xs) (hb : Below B w w') : Row w' B v xs := h.keep fun _ hp => hb.cell hp
theorem Row.drew (h : Row w B v xs) : Row w.drew B v xs := h
theorem Row.drewN (h : Row w B v xs) (k : Nat) : Row (w.drewN k) B v xs := h
theorem Row.alloc (h : Row w B v xs) (hB : B ≤ w.heap.size) (o : Obj) : Row (w.alloc o) B v xs := h.keep fun p hp => World.cell?_alloc_lt w o p (by omega)
theorem Row.setCell (h : Row w B v xs) {p : Addr} (hB : B ≤ p.block) (u : Value) : Row (w.setCell p u) B v xs :=
  h.keep fun q hq => World.cell?_setCell_other w p q u (fun e => by subst e; omega)
theorem Row.nil_ (c : Nat) (A : Option Addr) : Row w B (.slice A 0 c) [] := ⟨A, c, rfl, Nat.zero_le _, fun h => absurd h (by simp)⟩

/-- A block of the call's own, known whole. -/
theorem Row.of_block {g n c : Nat} {cs : Array Value} {t : TypeId} {fr : Nat × Nat} (h : w.heap[g]? = some (.cells cs t fr)) (hn : n = cs.size) (hc : n ≤ c) (hB : g < B) : Row w B (.slice (some ⟨g, 0, none⟩) n c) cs.toList := by
  subst hn
  refine ⟨_, c, by rw [Array.length_toList], by simpa using hc, fun _ => ⟨g, 0, rfl, hB, fun j u hu => ?_⟩⟩
  rw [Nat.zero_add]
  unfold World.cell?
  simp only [h]
  simpa using hu
theorem heap_new (w : World) (o : Obj) : (w.alloc o).heap[w.heap.size]? = some o := by
  show (w.heap.push o)[w.heap.size]? = _
  simp
theorem heap_old (w : World) (o : Obj) (g : Nat) (x : Obj) (h : w.heap[g]? = some x) : (w.alloc o).heap[g]? = some x := by
  have hg : g < w.heap.size := by
    rcases Nat.lt_or_ge g w.heap.size with hlt | hge
    · exact hlt
    · rw [Array.getElem?_eq_none hge] at h; cases h
  exact (Below.heap_alloc w o g hg).trans h
theorem heap_new_drew (w : World) (o : Obj) : (w.alloc o).drew.heap[w.heap.size]? = some o := heap_new w o
theorem heap_at (w : World) (o : Obj) {g : Nat} (h : w.heap.size = g) : (w.alloc o).heap[g]? = some o := by subst h; exact heap_new w o
theorem heap_at_drew (w : World) (o : Obj) {g : Nat} (h : w.heap.size = g) : (w.alloc o).drew.heap[g]? = some o := by subst h; exact heap_new w o
theorem heap_at2_drew (w : World) (o o2 : Obj) {g : Nat} (h : w.heap.size = g) : ((w.alloc o).alloc o2).drew.heap[g]? = some o := heap_old _ _ _ _ (heap_at w o h)
theorem heap_old_drew (w : World) (o : Obj) (g : Nat) (x : Obj) (h : w.heap[g]? = some x) : (w.alloc o).drew.heap[g]? = some x := heap_old w o g x h
theorem Row.new_ (w : World) {n c : Nat} (cs : Array Value) (t : TypeId) (fr : Nat × Nat) (hn : n = cs.size) (hc : n ≤ c) : Row (w.alloc (.cells cs t fr)) (w.heap.size + 1) (.slice (some ⟨w.heap.size, 0, none⟩) n c) cs.toList :=
  Row.of_block (heap_new w _) hn hc (Nat.lt_succ_self _)

/-- A slice that reads as a list, its array among the world's blocks. -/
def Rd (w : World) (v : Value) (xs : List Value) : Prop := Row w w.heap.size v xs
theorem Rd.alloc (h : Rd w v xs) (o : Obj) : Rd (w.alloc o) v xs := (Row.alloc h (Nat.le_refl _) o).more (by simp)
theorem Rd.drew (h : Rd w v xs) : Rd w.drew v xs := h
theorem Rd.below (h : Rd w v xs) (hb : Below w.heap.size w w') : Rd w' v xs := (Row.below h hb).more hb.size
theorem Rd.nil_ (w : World) (A : Option Addr) (c : Nat) : Rd w (.slice A 0 c) [] := Row.nil_ _ _
theorem Rd.of_block {g n c : Nat} {cs : Array Value} {t : TypeId} {fr : Nat × Nat} (h : w.heap[g]? = some (.cells cs t fr)) (hn : n = cs.size) (hc : n ≤ c) : Rd w (.slice (some ⟨g, 0, none⟩) n c) cs.toList :=
  Row.of_block h hn hc (by
    rcases Nat.lt_or_ge g w.heap.size with hlt | hge
    · exact hlt
    · rw [Array.getElem?_eq_none hge] at h; cases h)
theorem Rd.new_ (w : World) {g n c : Nat} {xs : List Value} (cs : Array Value) (t : TypeId) (fr : Nat × Nat) (hg : w.heap.size = g) (hn : n = cs.size) (hc : n ≤ c) (hx : cs.toList = xs) : Rd (w.alloc (.cells cs t fr)) (.slice (some ⟨g, 0, none⟩) n c) xs := by
  subst hx
  exact Rd.of_block (heap_at w _ hg) hn hc
/-- Of all that was there nothing has turned. -/
def Abv (w w' : World) : Prop := Below w.heap.size w w'
theorem Abv.refl (w : World) : Abv w w := Below.refl _ _
theorem Abv.alloc {a : World} (h : Abv a w) (o : Obj) : Abv a (w.alloc o) := Below.alloc h (Below.size h) o
theorem Abv.drew {a : World} (h : Abv a w) : Abv a w.drew := Below.drew h
theorem Abv.trans {a b c : World} (h : Abv a b) (k : Abv b c) : Abv a c := Below.trans h (Below.mono k (Below.size h))

/-- A block of bytes, as its cells. -/
def blk8 (l : List UInt8) : Array Value := (u8s l).toArray
theorem blk8_size (l : List UInt8) : (blk8 l).size = l.length := by simp [blk8, u8s]
theorem blk8_get (l : List UInt8) (j : Nat) (h : j < l.length) : (blk8 l)[j]? = some (.int .u8 (l[j].toNat : Int)) := by
  simp [blk8, u8s, h]
theorem blk8_set (l : List UInt8) (j : Nat) (x : UInt8) : (blk8 l).setIfInBounds j (.int .u8 (x.toNat : Int)) = blk8 (l.set j x) := by
  apply Array.ext'
  simp [blk8, u8s, List.map_set]
/-- A block that is known whole. -/
def Blk (w : World) (g : Nat) (t : TypeId) (cs : Array Value) : Prop := w.heap[g]? = some (.cells cs t (0, 0))
theorem Blk.cell {g : Nat} {t : TypeId} {cs : Array Value} (h : Blk w g t cs) (i : Nat) (u : Value) (hi : cs[i]? = some u) : w.cell? ⟨g, i, none⟩ = some u := by
  unfold Blk at h
  unfold World.cell?
  simp only [h]
  simpa using hi
theorem Blk.frozen {g : Nat} {t : TypeId} {cs : Array Value} (h : Blk w g t cs) (i : Nat) : w.frozen? ⟨g, i, none⟩ = false := by
  unfold Blk at h
  unfold World.frozen?
  simp only [h]
  simp
theorem Blk.set_ {g : Nat} {t : TypeId} {cs : Array Value} (h : Blk w g t cs) (i : Nat) (u : Value) : Blk (w.setCell ⟨g, i, none⟩ u) g t (cs.setIfInBounds i u) := by
  unfold Blk at h ⊢
  simp [World.setCell, Array.getElem?_modify, h]
theorem Blk.drew {g : Nat} {t : TypeId} {cs : Array Value} (h : Blk w g t cs) : Blk w.drew g t cs := h
theorem Blk.alloc {g : Nat} {t : TypeId} {cs : Array Value} (h : Blk w g t cs) (o : Obj) : Blk (w.alloc o) g t cs := heap_old w o g _ h
theorem Blk.new_ (w : World) {g : Nat} (cs : Array Value) (t : TypeId) (hg : w.heap.size = g) : Blk (w.alloc (.cells cs t)) g t cs := heap_at w _ hg
theorem Blk.far {g : Nat} {t : TypeId} {cs : Array Value} (h : Blk w g t cs) {p : Addr} (hp : g ≠ p.block) (u : Value) : Blk (w.setCell p u) g t cs := (Below.heap_setCell w p u g hp).trans h
theorem Blk.lt {g : Nat} {t : TypeId} {cs : Array Value} (h : Blk w g t cs) : g < w.heap.size := by
  rcases Nat.lt_or_ge g w.heap.size with hlt | hge
  · exact hlt
  · unfold Blk at h; rw [Array.getElem?_eq_none hge] at h; cases h
theorem Blk.below {g : Nat} {t : TypeId} {cs : Array Value} (h : Blk w g t cs) (hb : Below w.heap.size w w') : Blk w' g t cs := (hb.block g h.lt).trans h
theorem Blk.rd {g n c : Nat} {t : TypeId} {cs : Array Value} (h : Blk w g t cs) (hn : n = cs.size) (hc : n ≤ c) : Rd w (.slice (some ⟨g, 0, none⟩) n c) cs.toList := Rd.of_block h hn hc
theorem Blk.rd8 {g n c : Nat} {t : TypeId} {l : List UInt8} (h : Blk w g t (blk8 l)) (hn : n = l.length) (hc : n ≤ c) : Rd w (.slice (some ⟨g, 0, none⟩) n c) (u8s l) := by
  have := Blk.rd h (n := n) (c := c) (by rw [blk8_size]; exact hn) hc
  simpa [blk8] using this
/-- make([]byte, n). -/
theorem run_make8 {P : Program} (t e : TypeId) (ht : P.underlying t = some (.slice e)) (hinfo : (P.info? e).map (fun i => (i.zero, i.size, i.bytes)) = some (some (.int .u8 0), 1, 1)) (n : Nat) (hn : n ≤ 281474976710656) (w : World) :
    (Instr.makeSlice t (.int .i64 (n : Int)) (.int .i64 (n : Int))).run P w = .ok (.slice (some ⟨w.heap.size, 0, none⟩) n n) (w.alloc (.cells (blk8 (List.replicate n 0)) e)) := by
  rw [run_make_row' t e (.int .u8 0) 1 ht hinfo rfl .i64 .i64 n (by omega) (by omega) w]
  have : madeCells #[.int .u8 0] n = blk8 (List.replicate n 0) := by
    apply Array.ext'
    rw [toList_madeCells_one]
    simp [blk8, u8s]
  rw [this]

/-- Where a slice begins that is cut off its first k elements. -/
def hiA (A : Option Addr) (c k : Nat) : Option Addr := if c = k then A else A.map (·.add k)
theorem Row.low {A : Option Addr} {n c k : Nat} (h : Row w B (.slice A n c) xs) (hk : k ≤ n) : Row w B (.slice A k c) (xs.take k) := by
  obtain ⟨A', c', he, hc, hr⟩ := h
  injection he with h1 h2 h3
  subst h1 h2 h3
  have hl : (xs.take k).length = k := by rw [List.length_take]; omega
  refine ⟨A, c, by rw [hl], by omega, fun hn => ?_⟩
  obtain ⟨b, o, rfl, hb, hcell⟩ := hr (by omega)
  refine ⟨b, o, rfl, hb, fun j u hu => hcell j u ?_⟩
  rw [List.getElem?_take] at hu
  split at hu
  · exact hu
  · cases hu
theorem Row.high {A : Option Addr} {n c k : Nat} (h : Row w B (.slice A n c) xs) (hk : k ≤ n) : Row w B (.slice (hiA A c k) (n - k) (c - k)) (xs.drop k) := by
  obtain ⟨A', c', he, hc, hr⟩ := h
  injection he with h1 h2 h3
  subst h1 h2 h3
  have hl : (xs.drop k).length = xs.length - k := List.length_drop ..
  refine ⟨_, _, by rw [hl], by omega, fun hn => ?_⟩
  obtain ⟨b, o, rfl, hb, hcell⟩ := hr (by omega)
  have hck : c ≠ k := by omega
  refine ⟨b, o + k, ?_, hb, fun j u hu => ?_⟩
  · simp [hiA, hck, Addr.add]
  · rw [show o + k + j = o + (k + j) by omega]
    exact hcell (k + j) u (by rw [← hu, List.getElem?_drop])
theorem Rd.low {A : Option Addr} {n c k : Nat} {l : List UInt8} (h : Rd w (.slice A n c) (u8s l)) (hk : k ≤ n) : Rd w (.slice A k c) (u8s (l.take k)) := by
  rw [u8s_take]; exact Row.low h hk
theorem Rd.high {A : Option Addr} {n c k : Nat} {l : List UInt8} (h : Rd w (.slice A n c) (u8s l)) (hk : k ≤ n) : Rd w (.slice (hiA A c k) (n - k) (c - k)) (u8s (l.drop k)) := by
  rw [u8s_drop]; exact Row.high h hk
theorem run_low {P : Program} {t : TypeId} (ht : P.underlying t = some (.slice (P.elem t))) (hs : ∀ w, (sizeOf (P.elem t)).run P w = .ok 1 w) (A : Option Addr) (n c k : Nat) (hk : k ≤ c) (w : World) :
    (Instr.slice t (.slice A n c) none (some (.int .i64 (k : Int))) none).run P w = .ok (.slice A k c) w := by
  rw [run_slice_h w t A n c ht .i64 k (by omega) (by omega), hs]
  simp only [Result.andThen, sliced]
  have : (A.map fun x => x.add (0 * 1)) = A := by cases A <;> simp [Addr.add]
  rw [this]
  simp
theorem run_high {P : Program} {t : TypeId} (ht : P.underlying t = some (.slice (P.elem t))) (hs : ∀ w, (sizeOf (P.elem t)).run P w = .ok 1 w) (A : Option Addr) (n c k : Nat) (hk : k ≤ n) (w : World) :
    (Instr.slice t (.slice A n c) (some (.int .i64 (k : Int))) none none).run P w = .ok (.slice (hiA A c k) (n - k) (c - k)) w := by
  rw [run_slice_l w t A n c ht .i64 k (by omega) (by omega), hs]
  simp [Result.andThen, sliced, hiA]

/-- The cells of a slice of bytes that came in. -/
theorem open_bytes_cells {H : Type} {enc : TypeId × Value → H} {P : Program} {base fuel : Nat} {spare : Nat → Bool} {held : Bool} {t e : TypeId} {cs : List Value} {d : DataW H} {ps : List MemPlace}
    (ht : P.underlying t = some (.slice e)) (he : P.underlying e = some (.int .u8)) (hc : P.cellsOf e = 1)
    (hf' : DataW.trod enc P w base spare held fuel t cs = some (d, ps)) (hlt : ∀ x ∈ ps, x.block < B) :
    ∃ (v : Value) (l : List UInt8), cs = [v] ∧ l.length ≤ maxLen ∧ Row w B v (u8s l) := by
  rcases open_ints ht he hc hf' with ⟨h0, _⟩ | ⟨a, len, cap, zs, h0, _, hlc, hcm, hzl, hx, hcell, hwf⟩
  · exact ⟨_, [], h0, by simp, Row.nil_ _ _⟩
  · subst h0
    have hle : len ≤ zs.length := by rw [hzl]; split <;> omega
    have hin : ∀ j (h : j < zs.length), ((UInt8.ofNat (zs[j].toNat)).toNat : Int) = zs[j] := by
      intro j h
      have := hwf _ (List.getElem_mem h)
      simp only [Lit.wf, Bool.and_eq_true, decide_eq_true_eq] at this
      have h1 : IntKind.u8.min = 0 := rfl
      have h2 : IntKind.u8.max = 255 := rfl
      rw [h1, h2] at this
      simp only [UInt8.toNat_ofNat']
      omega
    refine ⟨_, (zs.take len).map fun z => UInt8.ofNat z.toNat, rfl, by simp; omega, ?_⟩
    have hlen : (u8s ((zs.take len).map fun z => UInt8.ofNat z.toNat)).length = len := by simp [u8s]; omega
    refine ⟨some a, cap, by rw [hlen], by omega, fun hn => ?_⟩
    rw [hlen] at hn
    have h0 := hcell 0 (by omega)
    have hspot : a.spot = none := by
      have e : a.add 0 = a := by simp [Addr.add]
      rw [e] at h0
      unfold World.cell? at h0
      cases hs : a.spot with
      | none => rfl
      | some k =>
        rw [hs] at h0
        revert h0
        split <;> simp
    obtain ⟨b, o, sp⟩ := a
    obtain rfl : sp = none := hspot
    have hadd : ∀ j, (⟨b, o, none⟩ : Addr).add j = ⟨b, o + j, none⟩ := by
      intro j
      simp [Addr.add]
      try omega
    refine ⟨b, o, rfl, ?_, fun j u hu => ?_⟩
    · have : (MemPlace.row ⟨b, o, none⟩ zs.length) = ps := (congrArg Prod.snd hx).symm
      have hmem : MemPlace.cell b (o + 0) ∈ ps := by
        rw [← this]
        simp [MemPlace.row]
        omega
      exact hlt _ hmem
    · have hj : j < len := by
        have := (List.getElem?_eq_some_iff.1 hu).1
        omega
      have hjz : j < zs.length := by omega
      have hj2 : j < ((zs.take len).map fun z => UInt8.ofNat z.toNat).length := by simp; omega
      rw [u8s_get _ j hj2] at hu
      injection hu with hu
      subst hu
      rw [← hadd, hcell j hjz]
      simp only [List.getElem_map, List.getElem_take, hin j hjz]
      simp [List.getD, hjz]
/-- A slice of bytes that came in. -/
theorem open_bytes {H : Type} {enc : TypeId × Value → H} {P : Program} {base b0 : Nat} {spare : Nat → Bool} {held : Bool} {r : Reach} {t e : TypeId} {v : Value} {d : DataW H} {ps : List MemPlace}
    (ht : P.underlying t = some (.slice e)) (he : P.underlying e = some (.int .u8)) (hc : P.cellsOf e = 1) (hval : Value.okWide P w r b0 t v)
    (hd : DataW.Trod enc P w base spare held t v d ps) (hlt : ∀ x ∈ ps, x.block < B) :
    ∃ l : List UInt8, l.length ≤ maxLen ∧ Row w B v (u8s l) := by
  obtain ⟨a0, len, cap, rfl⟩ := okWide_slice ht hval
  obtain ⟨fuel, hf⟩ := hd
  have hf' : DataW.trod enc P w base spare held fuel t [.slice a0 len cap] = some (d, ps) := by simpa [Value.cells] using hf
  obtain ⟨v, l, h1, h2, h3⟩ := open_bytes_cells ht he hc hf' hlt
  injection h1 with h1
  subst h1
  exact ⟨l, h2, h3⟩
end
end Go.Proofs.Ytofnldmbokdkbaa
