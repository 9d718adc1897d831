/-
  Contract of package record: read.
-/
import Derived.Test.YtofnldmbokdkbaaCSaid
import Derived.Test.YtofnldmbokdkbaaGrow
import Derived.Test.YtofnldmbokdkbaaAppN
namespace Go.Proofs.Ytofnldmbokdkbaa
open Go.RowKit

set_option linter.unusedSimpArgs false
set_option linter.unusedVariables false

/-- A reader's state behind n numbers of eight bytes; those numbers. -/
def St.numsSt : Nat → St → St
  | 0, s => s
  | n + 1, s => (St.numsSt n s).numSt 8
def St.nums : Nat → St → List Nat
  | 0, _ => []
  | n + 1, s => St.nums n s ++ [(St.numsSt n s).num 8]
theorem St.nums_length : ∀ (n : Nat) (s : St), (St.nums n s).length = n
  | 0, _ => rfl
  | n + 1, s => by rw [St.nums, List.length_append, St.nums_length n s]; rfl
theorem St.numsSt_length : ∀ (n : Nat) (s : St), (St.numsSt n s).rest.length ≤ s.rest.length
  | 0, _ => Nat.le_refl _
  | n + 1, s => Nat.le_trans (St.numSt_length _ 8) (St.numsSt_length n s)
theorem St.num2_lt (s : St) : s.num 2 < 65536 := by
  unfold St.num
  rw [if_pos (by omega)]
  have h1 := val_lt (s.got 2)
  have h3 : (s.got 2).length ≤ 2 := by
    unfold St.got
    split
    · rw [List.length_take]; omega
    · simp
  have h2 : 256 ^ (s.got 2).length ≤ 256 ^ 2 := Nat.pow_le_pow_right (by omega) h3
  omega
/-- The reader's states where a record would stand, and what it takes. -/
def rd1 (l : List UInt8) : St := (⟨l, false⟩ : St).take 2
def rd2 (l : List UInt8) : St := (rd1 l).numSt 1
def rd3 (l : List UInt8) : St := (rd2 l).numSt 1
def rd4 (l : List UInt8) : St := (rd3 l).numSt 1
def rd5 (l : List UInt8) : St := (rd4 l).numSt 1
def rd6 (l : List UInt8) : St := (rd5 l).textSt
def rd7 (l : List UInt8) : St := (rd6 l).textSt
def rd8 (l : List UInt8) : St := (rd7 l).numSt 2
def rd9 (l : List UInt8) : St := (rd8 l).take ((rd7 l).num 2)
def rdA (l : List UInt8) : St := (rd9 l).numSt 1
def rcI (l : List UInt8) : List UInt8 := (rd8 l).got ((rd7 l).num 2)
def readR (l : List UInt8) : Rc := ⟨(rd1 l).num 1, (rd2 l).num 1, (rd3 l).num 1, (rd4 l).num 1, ⟨(rd5 l).text.toArray⟩, ⟨(rd6 l).text.toArray⟩, ⟨(rcI l).toArray⟩, St.nums ((rd9 l).num 1) (rdA l)⟩
theorem rd_lengths (l : List UInt8) : (rd1 l).rest.length ≤ l.length ∧ (rd2 l).rest.length ≤ l.length ∧ (rd3 l).rest.length ≤ l.length ∧ (rd4 l).rest.length ≤ l.length ∧ (rd5 l).rest.length ≤ l.length ∧ (rd6 l).rest.length ≤ l.length ∧ (rd7 l).rest.length ≤ l.length ∧ (rd8 l).rest.length ≤ l.length ∧ (rd9 l).rest.length ≤ l.length ∧ (rdA l).rest.length ≤ l.length := by
  have h1 : (rd1 l).rest.length ≤ l.length := St.take_length _ _
  have h2 : (rd2 l).rest.length ≤ (rd1 l).rest.length := St.numSt_length _ _
  have h3 : (rd3 l).rest.length ≤ (rd2 l).rest.length := St.numSt_length _ _
  have h4 : (rd4 l).rest.length ≤ (rd3 l).rest.length := St.numSt_length _ _
  have h5 : (rd5 l).rest.length ≤ (rd4 l).rest.length := St.numSt_length _ _
  have h6 : (rd6 l).rest.length ≤ (rd5 l).rest.length := St.textSt_length _
  have h7 : (rd7 l).rest.length ≤ (rd6 l).rest.length := St.textSt_length _
  have h8 : (rd8 l).rest.length ≤ (rd7 l).rest.length := St.numSt_length _ _
  have h9 : (rd9 l).rest.length ≤ (rd8 l).rest.length := St.take_length _ _
  have hA : (rdA l).rest.length ≤ (rd9 l).rest.length := St.numSt_length _ _
  omega

/-- What read keeps: the reader, the result's block, the record's block, and all else that was there. -/
structure Rdg (w0 w : World) (lo g gr : Nat) (s : St) (cs : Array Value) : Prop where
  gone : w0.grownBy w (some g)
  rdr : Rdr w lo g s
  res : Blk w w0.heap.size 28 #[.int .i64 0, .int .i64 0, .int .i64 0, .int .i64 0, .string ⟨#[]⟩, .string ⟨#[]⟩, .string ⟨#[]⟩, .slice none 0 0]
  rcd : Blk w gr 28 cs
  lt : w0.heap.size < gr
  glt : g < w0.heap.size
section
variable {w0 w w' : World} {lo g gr : Nat} {s s' : St} {cs : Array Value}
theorem grownBy_set_own {row : Option Nat} (h : w.grownBy w' row) {p : Addr} (hp : w.heap.size ≤ p.block) (u : Value) : w.grownBy (w'.setCell p u) row :=
  ⟨h.os, h.tape, h.output, by have := h.size; simpa [World.setCell] using this, fun k hk hne => (Below.heap_setCell _ _ _ _ (by omega)).trans (h.block k hk hne)⟩
theorem grownBy_one (w : World) (p : Addr) (u : Value) : w.grownBy (w.setCell p u) (some p.block) :=
  ⟨rfl, rfl, rfl, by simp [World.setCell], fun k hk hne => Below.heap_setCell _ _ _ _ (fun e => hne (by rw [e]))⟩
theorem Rdg.call (h : Rdg w0 w lo g gr s cs) (hr : Rdr w' lo g s') (hg : w.grownBy w' (some g)) : Rdg w0 w' lo g gr s' cs :=
  ⟨h.gone.trans hg, hr, h.res.grown hg (fun e => by injection e with e; have := h.glt; omega), h.rcd.grown hg (fun e => by injection e with e; have := h.glt; have := h.lt; omega), h.lt, h.glt⟩
theorem Rdg.set (h : Rdg w0 w lo g gr s cs) (i : Nat) (u : Value) : Rdg w0 (w.setCell ⟨gr, i, none⟩ u) lo g gr s (cs.setIfInBounds i u) := by
  have h1 := h.lt
  have h2 := h.glt
  refine ⟨grownBy_set_own h.gone (Nat.le_of_lt h1) u, h.rdr.keep (grownBy_one w ⟨gr, i, none⟩ u) (fun k e => ?_), h.res.far (p := ⟨gr, i, none⟩) (Nat.ne_of_lt h1) u, h.rcd.set_ i u, h1, h2⟩
  injection e with e
  right
  rw [← e]
  show g < gr
  omega
theorem Rdg.own {row : Option Nat} (h : Rdg w0 w lo g gr s cs) (hg : w.grownBy w' row) (hr : ∀ k, row = some k → gr < k) : Rdg w0 w' lo g gr s cs := by
  have h1 := h.lt
  have h2 := h.glt
  refine ⟨⟨hg.os.trans h.gone.os, hg.tape.trans h.gone.tape, hg.output.trans h.gone.output, Nat.le_trans h.gone.size hg.size, fun k hk hne => (hg.block k (Nat.lt_of_lt_of_le hk h.gone.size) (fun e => by have := hr k e.symm; omega)).trans (h.gone.block k hk hne)⟩,
    h.rdr.keep hg (fun k e => .inr (by have := hr k e; omega)), h.res.grown hg (fun e => by have := hr _ e; omega), h.rcd.grown hg (fun e => by have := hr _ e; omega), h1, h2⟩
theorem Rdg.alloc (h : Rdg w0 w lo g gr s cs) (o : Obj) : Rdg w0 (w.alloc o) lo g gr s cs := h.own (row := none) (World.grownBy_alloc w o none) (fun k e => by cases e)
theorem Rdg.drew (h : Rdg w0 w lo g gr s cs) : Rdg w0 w.drew lo g gr s cs := ⟨⟨h.gone.os, h.gone.tape, h.gone.output, h.gone.size, h.gone.block⟩, h.rdr, h.res, h.rcd, h.lt, h.glt⟩
theorem Rdg.start (h : Rdr w' lo g s) (hl : g < w.heap.size) (hg : (w.alloc (.cells #[.int .i64 0, .int .i64 0, .int .i64 0, .int .i64 0, .string ⟨#[]⟩, .string ⟨#[]⟩, .string ⟨#[]⟩, .slice none 0 0] 28)).grownBy w' (some g)) : Rdg w (w'.alloc (.cells #[.int .i64 0, .int .i64 0, .int .i64 0, .int .i64 0, .string ⟨#[]⟩, .string ⟨#[]⟩, .string ⟨#[]⟩, .slice none 0 0] 28)) lo g w'.heap.size s #[.int .i64 0, .int .i64 0, .int .i64 0, .int .i64 0, .string ⟨#[]⟩, .string ⟨#[]⟩, .string ⟨#[]⟩, .slice none 0 0] := by
  have h1 : w.grownBy (w.alloc (.cells #[.int .i64 0, .int .i64 0, .int .i64 0, .int .i64 0, .string ⟨#[]⟩, .string ⟨#[]⟩, .string ⟨#[]⟩, .slice none 0 0] 28)) (some g) := World.grownBy_alloc w _ _
  have h2 : Blk (w.alloc (.cells #[.int .i64 0, .int .i64 0, .int .i64 0, .int .i64 0, .string ⟨#[]⟩, .string ⟨#[]⟩, .string ⟨#[]⟩, .slice none 0 0] 28)) w.heap.size 28 #[.int .i64 0, .int .i64 0, .int .i64 0, .int .i64 0, .string ⟨#[]⟩, .string ⟨#[]⟩, .string ⟨#[]⟩, .slice none 0 0] := heap_new w _
  have h3 : w'.grownBy (w'.alloc (.cells #[.int .i64 0, .int .i64 0, .int .i64 0, .int .i64 0, .string ⟨#[]⟩, .string ⟨#[]⟩, .string ⟨#[]⟩, .slice none 0 0] 28)) (some g) := World.grownBy_alloc w' _ _
  have h4 := h2.grown hg (fun e => by injection e with e; omega)
  exact ⟨(h1.trans hg).trans h3, h.alloc _, h4.alloc _, heap_new w' _, h4.lt, hl⟩
theorem Rdg.cells {x0 x1 x2 x3 x4 x5 x6 x7 : Value} (h : Rdg w0 w lo g gr s #[x0, x1, x2, x3, x4, x5, x6, x7]) : w.cell? ⟨gr, 0, none⟩ = some x0 ∧ w.cell? ⟨gr, 1, none⟩ = some x1 ∧ w.cell? ⟨gr, 2, none⟩ = some x2 ∧ w.cell? ⟨gr, 3, none⟩ = some x3 ∧
    w.cell? ⟨gr, 4, none⟩ = some x4 ∧ w.cell? ⟨gr, 5, none⟩ = some x5 ∧ w.cell? ⟨gr, 6, none⟩ = some x6 ∧ w.cell? ⟨gr, 7, none⟩ = some x7 :=
  ⟨h.rcd.cell 0 _ rfl, h.rcd.cell 1 _ rfl, h.rcd.cell 2 _ rfl, h.rcd.cell 3 _ rfl, h.rcd.cell 4 _ rfl, h.rcd.cell 5 _ rfl, h.rcd.cell 6 _ rfl, h.rcd.cell 7 _ rfl⟩
theorem Rdg.fz (h : Rdg w0 w lo g gr s cs) : w.frozen? ⟨gr, 0, none⟩ = false ∧ w.frozen? ⟨gr, 1, none⟩ = false ∧ w.frozen? ⟨gr, 2, none⟩ = false ∧ w.frozen? ⟨gr, 3, none⟩ = false ∧ w.frozen? ⟨gr, 4, none⟩ = false ∧ w.frozen? ⟨gr, 5, none⟩ = false ∧ w.frozen? ⟨gr, 6, none⟩ = false ∧ w.frozen? ⟨gr, 7, none⟩ = false :=
  ⟨h.rcd.frozen 0, h.rcd.frozen 1, h.rcd.frozen 2, h.rcd.frozen 3, h.rcd.frozen 4, h.rcd.frozen 5, h.rcd.frozen 6, h.rcd.frozen 7⟩
theorem Rdg.rcells (h : Rdg w0 w lo g gr s cs) : w.cell? ⟨w0.heap.size, 0, none⟩ = some (.int .i64 0) ∧ w.cell? ⟨w0.heap.size, 1, none⟩ = some (.int .i64 0) ∧ w.cell? ⟨w0.heap.size, 2, none⟩ = some (.int .i64 0) ∧ w.cell? ⟨w0.heap.size, 3, none⟩ = some (.int .i64 0) ∧
    w.cell? ⟨w0.heap.size, 4, none⟩ = some (.string ⟨#[]⟩) ∧ w.cell? ⟨w0.heap.size, 5, none⟩ = some (.string ⟨#[]⟩) ∧ w.cell? ⟨w0.heap.size, 6, none⟩ = some (.string ⟨#[]⟩) ∧ w.cell? ⟨w0.heap.size, 7, none⟩ = some (.slice none 0 0) :=
  ⟨h.res.cell 0 _ rfl, h.res.cell 1 _ rfl, h.res.cell 2 _ rfl, h.res.cell 3 _ rfl, h.res.cell 4 _ rfl, h.res.cell 5 _ rfl, h.res.cell 6 _ rfl, h.res.cell 7 _ rfl⟩
theorem Rdg.rfz (h : Rdg w0 w lo g gr s cs) : w.frozen? ⟨w0.heap.size, 0, none⟩ = false ∧ w.frozen? ⟨w0.heap.size, 1, none⟩ = false ∧ w.frozen? ⟨w0.heap.size, 2, none⟩ = false ∧ w.frozen? ⟨w0.heap.size, 3, none⟩ = false ∧ w.frozen? ⟨w0.heap.size, 4, none⟩ = false ∧ w.frozen? ⟨w0.heap.size, 5, none⟩ = false ∧ w.frozen? ⟨w0.heap.size, 6, none⟩ = false ∧ w.frozen? ⟨w0.heap.size, 7, none⟩ = false :=
  ⟨h.res.frozen 0, h.res.frozen 1, h.res.frozen 2, h.res.frozen 3, h.res.frozen 4, h.res.frozen 5, h.res.frozen 6, h.res.frozen 7⟩
end
theorem infoU64 : (Try.prog.info? 44).map (fun i => (i.zero, i.size, i.bytes)) = some (some (.int .u64 0), 1, 8) := by kernel_rfl
/-- The numbers that were read, in a row of the call's own. -/
def Dty (w : World) (gr : Nat) (v : Value) (ds : List Nat) : Prop := w.ownsRow (gr + 1) 44 1 v ds.length (u64s ds)
theorem Dty.low {w : World} {gr : Nat} {v : Value} {ds : List Nat} (h : Dty w gr v ds) : ∀ k, v.ownBlock = some k → gr < k := fun k hk => (World.ownsRow.lt h k hk).1
theorem Dty.rd {w : World} {gr : Nat} {v : Value} {ds : List Nat} (h : Dty w gr v ds) : Rd w v (u64s ds) := own_rd h
theorem Dty.form {w : World} {gr : Nat} {v : Value} {ds : List Nat} (h : Dty w gr v ds) : ∃ A c, v = .slice A ds.length c := own_form h
theorem Dty.kept {w w' : World} {gr : Nat} {v : Value} {ds : List Nat} {row : Option Nat} (h : Dty w gr v ds) (hg : w.grownBy w' row) (hr : ∀ k, row = some k → k ≤ gr) : Dty w' gr v ds := by
  refine World.ownsRow.kept (row := row) h hg ?_
  cases hv : v.ownBlock with
  | none => exact .inl rfl
  | some k => refine .inr fun e => ?_; have := h.low k hv; have := hr k e.symm; omega
theorem Dty.set {w : World} {gr : Nat} {v : Value} {ds : List Nat} (h : Dty w gr v ds) {p : Addr} (hp : p.block ≤ gr) (u : Value) : Dty (w.setCell p u) gr v ds := h.kept (grownBy_one w p u) (fun k e => by injection e with e; omega)
/-- A slice that reads as a list, its array in a block from lo on, below hi. -/
def Btw (w : World) (lo hi : Nat) (v : Value) (xs : List Value) : Prop :=
  ∃ A c, v = .slice A xs.length c ∧ xs.length ≤ c ∧ (0 < xs.length → ∃ b o, A = some ⟨b, o, none⟩ ∧ lo ≤ b ∧ b < hi ∧ ∀ j u, xs[j]? = some u → w.cell? ⟨b, o + j, none⟩ = some u)
theorem Btw.row {w : World} {lo hi : Nat} {v : Value} {xs : List Value} (h : Btw w lo hi v xs) : Row w hi v xs := by
  obtain ⟨A, c, e, hc, h⟩ := h
  exact ⟨A, c, e, hc, fun hn => by obtain ⟨b, o, e, _, hb, hr⟩ := h hn; exact ⟨b, o, e, hb, hr⟩⟩
theorem Btw.keep {w w' : World} {lo hi : Nat} {v : Value} {xs : List Value} (h : Btw w lo hi v xs) (hk : ∀ p : Addr, lo ≤ p.block → p.block < hi → w'.cell? p = w.cell? p) : Btw w' lo hi v xs := by
  obtain ⟨A, c, e, hc, h⟩ := h
  exact ⟨A, c, e, hc, fun hn => by obtain ⟨b, o, e, hl, hb, hr⟩ := h hn; exact ⟨b, o, e, hl, hb, fun j u hu => (hk _ hl hb).trans (hr j u hu)⟩⟩
theorem Btw.more {w : World} {lo lo' hi hi' : Nat} {v : Value} {xs : List Value} (h : Btw w lo hi v xs) (hl : lo' ≤ lo) (hh : hi ≤ hi') : Btw w lo' hi' v xs := by
  obtain ⟨A, c, e, hc, h⟩ := h
  exact ⟨A, c, e, hc, fun hn => by obtain ⟨b, o, e, hl', hb, hr⟩ := h hn; exact ⟨b, o, e, Nat.le_trans hl hl', Nat.lt_of_lt_of_le hb hh, hr⟩⟩
theorem Btw.rd {w : World} {lo hi : Nat} {v : Value} {xs : List Value} (h : Btw w lo hi v xs) (hh : hi ≤ w.heap.size) : Rd w v xs := Row.more h.row hh
theorem Btw.below {w w' : World} {lo hi : Nat} {v : Value} {xs : List Value} (h : Btw w lo hi v xs) (hb : Below w.heap.size w w') (hh : hi ≤ w.heap.size) : Btw w' lo hi v xs := h.keep fun p _ hp => hb.cell (Nat.lt_of_lt_of_le hp hh)
theorem Btw.alloc {w : World} {lo hi : Nat} {v : Value} {xs : List Value} (h : Btw w lo hi v xs) (hh : hi ≤ w.heap.size) (o : Obj) : Btw (w.alloc o) lo hi v xs := h.keep fun p _ hp => World.cell?_alloc_lt w o p (Nat.lt_of_lt_of_le hp hh)
theorem Btw.set {w : World} {lo hi : Nat} {v : Value} {xs : List Value} (h : Btw w lo hi v xs) {p : Addr} (hp : p.block < lo ∨ hi ≤ p.block) (u : Value) : Btw (w.setCell p u) lo hi v xs :=
  h.keep fun q h1 h2 => World.cell?_setCell_other w p q u (fun e => by subst e; omega)
theorem Dty.btw {w : World} {gr lo : Nat} {v : Value} {ds : List Nat} (h : Dty w gr v ds) (hl : lo ≤ gr) : Btw w (lo + 1) w.heap.size v (u64s ds) := by
  obtain ⟨hlen, hcase⟩ := id h
  rw [Nat.mul_one] at hlen
  rcases hcase with ⟨rfl, h0⟩ | ⟨g, cap, cur, rfl, hg, hh, hn, hcap, hsz, htake⟩
  · have : ds = [] := List.eq_nil_of_length_eq_zero h0
    subst this
    exact ⟨none, 0, rfl, Nat.zero_le _, fun hn => absurd hn (by simp [u64s])⟩
  · refine ⟨_, cap, by rw [hlen], by rw [hlen]; exact hn, fun hpos => ⟨g, 0, rfl, by omega, Blk.lt hh, fun j u hu => ?_⟩⟩
    rw [Nat.zero_add]
    unfold World.cell?
    simp only [hh]
    rw [← htake, Nat.mul_one, List.getElem?_take] at hu
    split at hu
    · simpa using hu
    · cases hu
theorem wp_enters {P : Program} {ops : Array Oper} {Q : Exit → Act → World → Prop} {o : Oper} {a : Act} {w : World} {f : FuncId} {args : Array Value} {i : Nat} {L : Nat → Bool} {V : Nat → Value → Prop} {M : Phases} (hrun : (execOp a.eval o).run P w = .ok (.enter f args) w)
    (hc : Calls P f args w fun e w' => ∃ v, e = .returned v ∧ V i v ∧ M (also L i) (yielding (got ops a) i v) w') :
    o.wp P a w (fun a' w' => ∃ v, a' = a.put o.dst v ∧ V i v ∧ M (also L i) (yielding (got ops a) i v) w') Q := by
  unfold Oper.wp
  rw [hrun, Oper.upon_enter]
  refine hc.mono ?_
  rintro e w' ⟨v, rfl, h⟩
  exact ⟨v, rfl, h⟩
/-- The record's cells on the way. -/
def rcs (k t p s : Int) (b a i : ByteArray) (D : Value) : Array Value := #[.int .i64 k, .int .i64 t, .int .i64 p, .int .i64 s, .string b, .string a, .string i, D]
/-- One number has been read; it lies in a row of its own; it stands behind the others; the record has it. -/
def RdA (w0 : World) (lo g gr : Nat) (st : St) (C : Value → Array Value) (D : Value) (ds : List Nat) (w : World) : Prop := Rdg w0 w lo g gr st (C D) ∧ Dty w gr D ds
def RdB (w0 : World) (lo g gr : Nat) (st : St) (C : Value → Array Value) (D : Value) (ds : List Nat) (x : Nat) (v : Value) (w : World) : Prop := RdA w0 lo g gr st C D ds w ∧ ∃ b, v = .slice (some ⟨b, 0, none⟩) 1 1 ∧ Blk w b 44 #[.int .u64 (x : Int)]
def RdC (w0 : World) (lo g gr : Nat) (st : St) (C : Value → Array Value) (D : Value) (ds : List Nat) (v : Value) (w : World) : Prop := Rdg w0 w lo g gr st (C D) ∧ Dty w gr v ds
def RdD (w0 : World) (lo g gr : Nat) (st : St) (C : Value → Array Value) (ds : List Nat) (v : Value) (w : World) : Prop := RdA w0 lo g gr st C v ds w
theorem take_1s {w : World} {lo g : Nat} {s : St} (h : Rdr w lo g s) (hm : s.rest.length ≤ 70368744177664) :
    Calls Try.prog 33 #[ptr g, .int .i64 2] w fun e w' => ∃ A c, e = .returned (.slice A (s.got 2).length c) ∧ Rdr w' lo g (s.take 2) ∧ w.grownBy w' (some g) :=
  (take_told 2 h hm).mono fun _ _ ⟨A, c, h1, _, h3, h4, _⟩ => ⟨A, c, h1, h3, h4⟩
theorem num_1s {w : World} {lo g : Nat} {s : St} (h : Rdr w lo g s) (hm : s.rest.length ≤ 70368744177664) :
    Calls Try.prog 34 #[ptr g, .int .i64 1] w fun e w' => e = .returned (.int .u64 (s.num 1 : Int)) ∧ Rdr w' lo g (s.numSt 1) ∧ w.grownBy w' (some g) := num_any 1 h hm
theorem num_2s {w : World} {lo g : Nat} {s : St} (h : Rdr w lo g s) (hm : s.rest.length ≤ 70368744177664) :
    Calls Try.prog 34 #[ptr g, .int .i64 2] w fun e w' => e = .returned (.int .u64 (s.num 2 : Int)) ∧ Rdr w' lo g (s.numSt 2) ∧ w.grownBy w' (some g) := num_any 2 h hm
set_option maxHeartbeats 4000000 in
theorem read_any {w : World} {lo g : Nat} {l : List UInt8} (h : Rdr w lo g ⟨l, false⟩) (hm : l.length ≤ 395) :
    Calls Try.prog 22 #[ptr g] w fun e w' => ∃ A c, e = .returned (.agg #[.int .i64 ((readR l).k : Int), .int .i64 ((readR l).t : Int), .int .i64 ((readR l).p : Int), .int .i64 ((readR l).s : Int), .string (readR l).b, .string (readR l).a, .string (readR l).i, .slice A (readR l).ds.length c]) ∧
      Btw w' (w.heap.size + 1) w'.heap.size (.slice A (readR l).ds.length c) (u64s (readR l).ds) ∧ w.grownBy w' (some g) := by
  obtain ⟨l1, l2, l3, l4, l5, l6, l7, l8, l9, lA⟩ := rd_lengths l
  have hgl := h.lt
  have h0 : Rdr (w.alloc (.cells #[.int .i64 0, .int .i64 0, .int .i64 0, .int .i64 0, .string ⟨#[]⟩, .string ⟨#[]⟩, .string ⟨#[]⟩, .slice none 0 0] 28)) lo g ⟨l, false⟩ := h.alloc _
  have hm0 : (⟨l, false⟩ : St).rest.length ≤ 70368744177664 := by show l.length ≤ _; omega
  have H1 := hide (show (⟨l, false⟩ : St).take 2 = rd1 l from rfl)
  have H2 := hide (show (rd1 l).numSt 1 = rd2 l from rfl)
  have H3 := hide (show (rd2 l).numSt 1 = rd3 l from rfl)
  have H4 := hide (show (rd3 l).numSt 1 = rd4 l from rfl)
  have H5 := hide (show (rd4 l).numSt 1 = rd5 l from rfl)
  have H6 := hide (show (rd5 l).textSt = rd6 l from rfl)
  have H7 := hide (show (rd6 l).textSt = rd7 l from rfl)
  have H8 := hide (show (rd7 l).numSt 2 = rd8 l from rfl)
  have HE := hide (show (rd9 l).numSt 1 = rdA l from rfl)
  have HR := hide (show readR l = ⟨(rd1 l).num 1, (rd2 l).num 1, (rd3 l).num 1, (rd4 l).num 1, ⟨(rd5 l).text.toArray⟩, ⟨(rd6 l).text.toArray⟩, ⟨(rcI l).toArray⟩, St.nums ((rd9 l).num 1) (rdA l)⟩ from rfl)
  have bk := (rd1 l).num1_lt
  have bt := (rd2 l).num1_lt
  have bp := (rd3 l).num1_lt
  have bs := (rd4 l).num1_lt
  have bn := (rd7 l).num2_lt
  have bc := (rd9 l).num1_lt
  have H9 : Hid ((rd8 l).take ((rd7 l).num 2 : Int) = rd9 l) := hide rfl
  have HI : Hid ((rd8 l).got ((rd7 l).num 2 : Int) = rcI l) := hide rfl
  generalize hk : (rd1 l).num 1 = k at *
  generalize ht : (rd2 l).num 1 = t at *
  generalize hp : (rd3 l).num 1 = p at *
  generalize hs : (rd4 l).num 1 = s at *
  generalize hb : (rd5 l).text = b at *
  generalize ha : (rd6 l).text = a at *
  generalize hn : (rd7 l).num 2 = n at *
  generalize hi : rcI l = i at *
  generalize hc : (rd9 l).num 1 = cnt at *
  have HK := hide hk
  have HT := hide ht
  have HP := hide hp
  have HS := hide hs
  have HB := hide hb
  have HA := hide ha
  have HN := hide hn
  have HC := hide hc
  clear hk ht hp hs hb ha hn hi hc h
  go_enter Try.func22, Try.ntmps22
  go_wp2_with (first
    | (go_at_call 33; ((with_reducible refine (take_1s h0 hm0).mono ?_); rw [H1.out]; rintro e w1 ⟨A1, c1, rfl, hr1, hg1⟩; have R1 := Rdg.start hr1 hgl hg1))
    | (go_at_call 34; ((with_reducible refine (num_1s R1.rdr (by omega)).mono ?_); rw [HK.out, H2.out]; rintro e w2 ⟨rfl, hr2, hg2⟩; have R2 := R1.call hr2 hg2))
    | (go_at_call 34; ((with_reducible refine (num_1s R2.rdr (by omega)).mono ?_); rw [HT.out, H3.out]; rintro e w3 ⟨rfl, hr3, hg3⟩; have R3 : Rdg w w3 lo g w1.heap.size (rd3 l) #[.int .i64 0, .int .i64 0, .int .i64 0, .int .i64 0, .string ⟨#[]⟩, .string ⟨#[]⟩, .string ⟨#[]⟩, .slice none 0 0] := R2.call hr3 hg3; obtain ⟨a0, a1, a2, a3, a4, a5, a6, a7⟩ := R3.cells; obtain ⟨af0, af1, af2, af3, af4, af5, af6, af7⟩ := R3.fz; have R3' : Rdg w ((w3.setCell ⟨w1.heap.size, 0, none⟩ (.int .i64 (k : Int))).setCell ⟨w1.heap.size, 1, none⟩ (.int .i64 (t : Int))) lo g w1.heap.size (rd3 l) #[.int .i64 (k : Int), .int .i64 (t : Int), .int .i64 0, .int .i64 0, .string ⟨#[]⟩, .string ⟨#[]⟩, .string ⟨#[]⟩, .slice none 0 0] := (R3.set 0 _).set 1 _))
    | (go_at_call 34; ((with_reducible refine (num_1s R3'.rdr (by omega)).mono ?_); rw [HP.out, H4.out]; rintro e w4 ⟨rfl, hr4, hg4⟩; have R4 := R3'.call hr4 hg4))
    | (go_at_call 34; ((with_reducible refine (num_1s R4.rdr (by omega)).mono ?_); rw [HS.out, H5.out]; rintro e w5 ⟨rfl, hr5, hg5⟩; have R5 : Rdg w w5 lo g w1.heap.size (rd5 l) #[.int .i64 (k : Int), .int .i64 (t : Int), .int .i64 0, .int .i64 0, .string ⟨#[]⟩, .string ⟨#[]⟩, .string ⟨#[]⟩, .slice none 0 0] := R4.call hr5 hg5; obtain ⟨b0, b1, b2, b3, b4, b5, b6, b7⟩ := R5.cells; obtain ⟨bf0, bf1, bf2, bf3, bf4, bf5, bf6, bf7⟩ := R5.fz; have R5' : Rdg w ((w5.setCell ⟨w1.heap.size, 2, none⟩ (.int .i64 (p : Int))).setCell ⟨w1.heap.size, 3, none⟩ (.int .i64 (s : Int))) lo g w1.heap.size (rd5 l) #[.int .i64 (k : Int), .int .i64 (t : Int), .int .i64 (p : Int), .int .i64 (s : Int), .string ⟨#[]⟩, .string ⟨#[]⟩, .string ⟨#[]⟩, .slice none 0 0] := (R5.set 2 _).set 3 _))
    | (go_at_call 35; ((with_reducible refine (text_any_r R5'.rdr (by omega)).mono ?_); rw [HB.out, H6.out]; rintro e w6 ⟨rfl, hr6, hg6⟩; have R6 := R5'.call hr6 hg6))
    | (go_at_call 35; ((with_reducible refine (text_any_r R6.rdr (by omega)).mono ?_); rw [HA.out, H7.out]; rintro e w7 ⟨rfl, hr7, hg7⟩; have R7 : Rdg w w7 lo g w1.heap.size (rd7 l) #[.int .i64 (k : Int), .int .i64 (t : Int), .int .i64 (p : Int), .int .i64 (s : Int), .string ⟨#[]⟩, .string ⟨#[]⟩, .string ⟨#[]⟩, .slice none 0 0] := R6.call hr7 hg7; obtain ⟨d0, d1, d2, d3, d4, d5, d6, d7⟩ := R7.cells; obtain ⟨df0, df1, df2, df3, df4, df5, df6, df7⟩ := R7.fz; have R7' : Rdg w ((w7.setCell ⟨w1.heap.size, 4, none⟩ (.string ⟨b.toArray⟩)).setCell ⟨w1.heap.size, 5, none⟩ (.string ⟨a.toArray⟩)) lo g w1.heap.size (rd7 l) #[.int .i64 (k : Int), .int .i64 (t : Int), .int .i64 (p : Int), .int .i64 (s : Int), .string ⟨b.toArray⟩, .string ⟨a.toArray⟩, .string ⟨#[]⟩, .slice none 0 0] := (R7.set 4 _).set 5 _))
    | (go_at_call 34; ((with_reducible refine (num_2s R7'.rdr (by omega)).mono ?_); rw [HN.out, H8.out]; rintro e w8 ⟨rfl, hr8, hg8⟩; have R8 := R7'.call hr8 hg8))
    | (go_at_call 33; ((with_reducible refine (take_told (n : Int) R8.rdr (by omega)).mono ?_); rw [HI.out, H9.out]; rintro e w9 ⟨A9, c9, rfl, hrd9, hr9, hg9, hcv⟩; have R9 : Rdg w w9 lo g w1.heap.size (rd9 l) #[.int .i64 (k : Int), .int .i64 (t : Int), .int .i64 (p : Int), .int .i64 (s : Int), .string ⟨b.toArray⟩, .string ⟨a.toArray⟩, .string ⟨#[]⟩, .slice none 0 0] := R8.call hr9 hg9; obtain ⟨e0, e1, e2, e3, e4, e5, e6, e7⟩ := R9.cells; obtain ⟨ef0, ef1, ef2, ef3, ef4, ef5, ef6, ef7⟩ := R9.fz; have R9' : Rdg w (w9.setCell ⟨w1.heap.size, 6, none⟩ (.string ⟨i.toArray⟩)) lo g w1.heap.size (rd9 l) #[.int .i64 (k : Int), .int .i64 (t : Int), .int .i64 (p : Int), .int .i64 (s : Int), .string ⟨b.toArray⟩, .string ⟨a.toArray⟩, .string ⟨i.toArray⟩, .slice none 0 0] := R9.set 6 _))
    | (go_at_call 34; ((with_reducible refine (num_1s R9'.rdr (by omega)).mono ?_); rw [HC.out, HE.out]; rintro e wA ⟨rfl, hrA, hgA⟩; have RA := R9'.call hrA hgA)))
  obtain ⟨C, hC⟩ : ∃ C : Value → Array Value, C = fun D => #[.int .i64 (k : Int), .int .i64 (t : Int), .int .i64 (p : Int), .int .i64 (s : Int), .string ⟨b.toArray⟩, .string ⟨a.toArray⟩, .string ⟨i.toArray⟩, D] := ⟨_, rfl⟩
  have R0 : RdA w lo g w1.heap.size (rdA l) C (.slice none 0 0) [] wA := ⟨by rw [hC]; exact RA, own_nil _ _ _⟩
  have hC7 := hide (show ∀ D, (C D)[7]? = some D by intro D; rw [hC]; rfl)
  have hSET := hide (show ∀ D u, (C D).setIfInBounds 7 u = C u by intro D u; rw [hC]; rfl)
  have HCC := hide hC
  clear R1 R2 R3 R3' R4 R5 R5' R6 R7 R7' R8 R9 R9' RA hr1 hr2 hr3 hr4 hr5 hr6 hr7 hr8 hr9 hrA hg1 hg2 hg3 hg4 hg5 hg6 hg7 hg8 hg9 hgA hrd9 h0 hC
  generalize w1.heap.size = gr at *
  go_loopw [37] (fun i wr => ∃ j : Nat, j ≤ cnt ∧ i = .int .u64 j ∧ ∃ v, RdA w lo g gr (St.numsSt j (rdA l)) C v (St.nums j (rdA l)) wr) (fun i _ => cnt - (intOf i).toNat)
  case atStart => exact ⟨0, by omega, rfl, _, R0⟩
  case round =>
    obtain ⟨j, hj, rfl, D, hA⟩ := hrel
    by_cases hlt : j < cnt
    · have E1 := hide (show St.numsSt (j + 1) (rdA l) = (St.numsSt j (rdA l)).numSt 8 from rfl)
      have E2 := hide (show St.nums (j + 1) (rdA l) = St.nums j (rdA l) ++ [(St.numsSt j (rdA l)).num 8] from rfl)
      have HM := hide (show (St.numsSt j (rdA l)).rest.length ≤ 70368744177664 from Nat.le_trans (St.numsSt_length j (rdA l)) (by omega))
      have HN := hide (show (St.nums j (rdA l)).length ≤ 1000 by rw [St.nums_length]; omega)
      obtain ⟨x, hx⟩ : ∃ x, (St.numsSt j (rdA l)).num 8 = x := ⟨_, rfl⟩
      have HX := hide hx
      clear hx
      generalize St.numsSt j (rdA l) = st at *
      generalize St.nums j (rdA l) = ds at *
      go_wp2
      refine region_phases (ops := _) (valV [some (.pointer (some ⟨gr, 7, none⟩)), some (D), some (ptr g), some (.int .u64 (x : Int)), none, none, some (.pointer (some ⟨gr, 7, none⟩)), none]) (phased [⟨7, 5, RdD w lo g gr (st.numSt 8) C (ds ++ [x])⟩, ⟨5, 5, RdC w lo g gr (st.numSt 8) C D (ds ++ [x])⟩, ⟨4, 4, RdB w lo g gr (st.numSt 8) C D ds x⟩, ⟨3, 3, fun _ => RdA w lo g gr (st.numSt 8) C D ds⟩] (RdA w lo g gr st C D ds)) (by kernel_rfl) (by kernel_rfl) (by kernel_rfl) (by kernel_rfl) (phased_ext (by kernel_rfl)) ?_ ?_ ?_
      · exact ⟨hA.1.drew, hA.2⟩
      · intro i o ho L a w2 hph hsz hLi hnot hyes old dep
        match i, ho with
        | 0, ho =>
          obtain rfl := Option.some.inj ho
          rw [if_pos (wanted_none rfl)]
          have o3 := old 3 (by kernel_rfl)
          refine wp_yields (v := .pointer (some ⟨gr, 7, none⟩)) (w' := w2) ?_ (fun u hu => Option.some.inj (Option.some.inj hu)) (phased_quiet hLi (by rfl) hph)
          clear dep old ho hsz hph hnot hyes hLi
          go_simp
        | 1, ho =>
          obtain rfl := Option.some.inj ho
          rw [if_pos (wanted_none rfl)]
          have d0 : a.tmps.getD 39 undef = .pointer (some ⟨gr, 7, none⟩) := dep 0 _ _ (by kernel_rfl) rfl rfl _ rfl
          have e0 : a.tmps[39]?.getD undef = .pointer (some ⟨gr, 7, none⟩) := (Array.getD_eq_getD_getElem? ..).symm.trans d0
          have hcell : w2.cell? ⟨gr, 7, none⟩ = some D := by
            have hph2 := hph
            unfold phased phased phased phased at hph2
            rw [if_neg (by rw [hnot 7 (by kernel_rfl)]; decide), if_neg (by rw [hnot 5 (by kernel_rfl)]; decide)] at hph2
            unfold phased at hph2
            split at hph2
            · exact hph2.2.1.1.rcd.cell 7 _ (hC7.out _)
            · split at hph2
              · exact hph2.2.1.rcd.cell 7 _ (hC7.out _)
              · exact hph2.1.rcd.cell 7 _ (hC7.out _)
          refine wp_yields (v := D) (w' := w2) ?_ (fun u hu => Option.some.inj (Option.some.inj hu)) (phased_quiet hLi (by rfl) hph)
          clear dep old ho hsz hph hnot hyes hLi
          go_simp
        | 2, ho =>
          obtain rfl := Option.some.inj ho
          rw [if_pos (wanted_none rfl)]
          have o0 := old 0 (by kernel_rfl)
          refine wp_yields (v := ptr g) (w' := w2) ?_ (fun u hu => Option.some.inj (Option.some.inj hu)) (phased_quiet hLi (by rfl) hph)
          clear dep old ho hsz hph hnot hyes hLi
          go_simp
        | 3, ho =>
          obtain rfl := Option.some.inj ho
          rw [if_pos (wanted_none rfl)]
          have d2 : a.tmps.getD 41 undef = ptr g := dep 2 _ _ (by kernel_rfl) rfl rfl _ rfl
          have e2 : a.tmps[41]?.getD undef = ptr g := (Array.getD_eq_getD_getElem? ..).symm.trans d2
          unfold phased phased phased phased phased at hph
          rw [if_neg (by rw [hnot 7 (by kernel_rfl)]; decide), if_neg (by rw [hnot 5 (by kernel_rfl)]; decide), if_neg (by rw [hnot 4 (by kernel_rfl)]; decide), if_neg (by rw [hLi]; decide)] at hph
          have hA : RdA w lo g gr st C D ds w2 := hph
          refine wp_enters (f := 34) (args := #[ptr g, .int .i64 8]) ?_ ?_
          · clear dep old ho hsz hnot hyes hLi
            go_simp
          refine (num_any 8 hA.1.rdr HM.out).mono ?_
          rintro e w3 ⟨rfl, hr3, hg3⟩
          refine ⟨_, rfl, fun u hu => by rw [HX.out]; exact Option.some.inj (Option.some.inj hu), ?_⟩
          unfold phased phased phased phased
          rw [if_neg (by simp [also, hnot 7 (by kernel_rfl)]), if_neg (by simp [also, hnot 5 (by kernel_rfl)]), if_neg (by simp [also, hnot 4 (by kernel_rfl)]), if_pos (by simp [also])]
          exact ⟨by simp [also], hA.1.call hr3 hg3, hA.2.kept hg3 (fun k e => by injection e with e; have := hA.1.glt; have := hA.1.lt; omega)⟩
        | 4, ho =>
          obtain rfl := Option.some.inj ho
          rw [if_pos (wanted_none rfl)]
          have d3 : a.tmps.getD 42 undef = .int .u64 (x : Int) := dep 3 _ _ (by kernel_rfl) rfl rfl _ rfl
          have e3 : a.tmps[42]?.getD undef = .int .u64 (x : Int) := (Array.getD_eq_getD_getElem? ..).symm.trans d3
          unfold phased phased phased phased phased at hph
          rw [if_neg (by rw [hnot 7 (by kernel_rfl)]; decide), if_neg (by rw [hnot 5 (by kernel_rfl)]; decide), if_neg (by rw [hLi]; decide), if_pos (hyes 3 (by kernel_rfl))] at hph
          have hA : RdA w lo g gr (st.numSt 8) C D ds w2 := hph.2
          refine wp_yields (v := .slice (some ⟨w2.heap.size, 0, none⟩) 1 1) (w' := w2.alloc (.cells #[.int .u64 (x : Int)] 44)) ?_ (fun u hu => by cases Option.some.inj hu) ?_
          · clear dep old ho hsz hnot hyes hLi hph
            go_simp
          · unfold phased phased phased
            rw [if_neg (by simp [also, hnot 7 (by kernel_rfl)]), if_neg (by simp [also, hnot 5 (by kernel_rfl)]), if_pos (by simp [also])]
            exact ⟨by simp [also], ⟨hA.1.alloc _, hA.2.kept (row := none) (World.grownBy_alloc w2 _ none) (fun k e => by cases e)⟩, w2.heap.size, by simp [yielding], heap_new w2 _⟩
        | 5, ho =>
          obtain rfl := Option.some.inj ho
          rw [if_pos (wanted_none rfl)]
          have d1 : a.tmps.getD 40 undef = D := dep 1 _ _ (by kernel_rfl) rfl rfl _ rfl
          have e1 : a.tmps[40]?.getD undef = D := (Array.getD_eq_getD_getElem? ..).symm.trans d1
          unfold phased phased phased at hph
          rw [if_neg (by rw [hnot 7 (by kernel_rfl)]; decide), if_neg (by rw [hLi]; decide), if_pos (hyes 4 (by kernel_rfl))] at hph
          obtain ⟨_, hA, b, eb, hbb⟩ := hph
          have eb' : a.eval (.tmp 43) = .slice (some ⟨b, 0, none⟩) 1 1 := eb
          have d1' : a.eval (.tmp 40) = D := d1
          refine wp_append_rows (.tmp 40) (.tmp 43) 22 rfl (base := gr + 1) 44 _ 1 8 Try.underlying22 infoU64 rfl (by omega) D ds.length (u64s ds) d1' hA.2 b 1 1 [.int .u64 (x : Int)] eb' rfl (fun j u hu => hbb.cell j u (by simpa using hu)) (by simp [Value.oneCell']) (by have := HN.out; unfold maxLen; omega) (by have := HN.out; omega) (Nat.succ_le_of_lt hA.1.rcd.lt) ?_
          intro v' w' hown' hgrow hat
          refine ⟨v', rfl, (fun u hu => by cases Option.some.inj hu), ?_⟩
          unfold phased phased
          rw [if_neg (by simp [also, hnot 7 (by kernel_rfl)]), if_pos (by simp [also])]
          refine ⟨by simp [also], ?_⟩
          have hD : Dty w' gr v' (ds ++ [x]) := by
            unfold Dty
            rw [u64s_append, List.length_append]
            exact hown'
          have hR := hA.1.own hgrow hA.2.low
          exact ⟨hR, by simpa [yielding] using hD⟩
        | 6, ho =>
          obtain rfl := Option.some.inj ho
          rw [if_pos (wanted_none rfl)]
          have o3 := old 3 (by kernel_rfl)
          refine wp_yields (v := .pointer (some ⟨gr, 7, none⟩)) (w' := w2) ?_ (fun u hu => Option.some.inj (Option.some.inj hu)) (phased_quiet hLi (by rfl) hph)
          clear dep old ho hsz hph hnot hyes hLi
          go_simp
        | 7, ho =>
          obtain rfl := Option.some.inj ho
          rw [if_pos (wanted_none rfl)]
          have d6 : a.tmps.getD 45 undef = .pointer (some ⟨gr, 7, none⟩) := dep 6 _ _ (by kernel_rfl) rfl rfl _ rfl
          have e6 : a.tmps[45]?.getD undef = .pointer (some ⟨gr, 7, none⟩) := (Array.getD_eq_getD_getElem? ..).symm.trans d6
          unfold phased phased at hph
          rw [if_neg (by rw [hLi]; decide), if_pos (hyes 5 (by kernel_rfl))] at hph
          obtain ⟨v', ev⟩ : ∃ v', a.tmps.getD 44 undef = v' := ⟨_, rfl⟩
          have hphv : RdC w lo g gr (st.numSt 8) C D (ds ++ [x]) (a.tmps.getD 44 undef) w2 := hph.2
          rw [ev] at hphv
          have ev2 : a.tmps[44]?.getD undef = v' := (Array.getD_eq_getD_getElem? ..).symm.trans ev
          have hc := hphv.1.rcd.cell 7 _ (hC7.out _)
          have hf := hphv.1.rcd.frozen 7
          obtain ⟨A, c, rfl⟩ := hphv.2.form
          refine wp_skips (w' := w2.setCell ⟨gr, 7, none⟩ (.slice A (ds ++ [x]).length c)) ?_ (fun u hu => by cases Option.some.inj hu) ?_
          · clear dep old ho hsz hnot hyes hLi ev hph hphv
            go_simp
          · unfold phased
            rw [if_pos (by simp [also])]
            refine ⟨by simp [also, hyes 5 (by kernel_rfl)], ?_⟩
            show RdD w lo g gr (st.numSt 8) C (ds ++ [x]) (a.tmps.getD 44 undef) _
            rw [ev]
            refine ⟨?_, ?_⟩
            · have := hphv.1.set 7 (.slice A (ds ++ [x]).length c)
              rw [hSET.out] at this
              exact this
            · exact hphv.2.kept (grownBy_one w2 ⟨gr, 7, none⟩ _) (fun k e => by injection e with e; rw [← e]; exact Nat.le_refl _)
        | i + 8, ho => exact absurd ho (by simp)
      · intro a w2 hph hsz hdf fin keep
        unfold phased at hph
        rw [if_pos rfl] at hph
        obtain ⟨v2, hR2⟩ : ∃ v2, RdA w lo g gr (st.numSt 8) C v2 (ds ++ [x]) w2 := ⟨_, hph.2⟩
        clear hph
        obtain ⟨tm, df⟩ := a
        have hx2 := frame_of [39, 40, 41, 42, 43, 44, 45] (by kernel_rfl) hsz keep
        dsimp only at hdf hx2
        simp only [List.foldl_cons, List.foldl_nil] at hx2
        subst hdf
        clear hsz keep fin
        generalize tm.getD 39 undef = y39 at hx2
        generalize tm.getD 40 undef = y40 at hx2
        generalize tm.getD 41 undef = y41 at hx2
        generalize tm.getD 42 undef = y42 at hx2
        generalize tm.getD 43 undef = y43 at hx2
        generalize tm.getD 44 undef = y44 at hx2
        generalize tm.getD 45 undef = y45 at hx2
        simp only [List.setIfInBounds_toArray, List.set_cons_succ, List.set_cons_zero] at hx2
        subst hx2
        go_wp2
        go_round
        case rel => exact ⟨j + 1, by omega, by go_num, v2, by rw [E1.out, E2.out, HX.out]; exact hR2⟩
        case measure => simp [intOf]; omega
    · obtain rfl : j = cnt := by omega
      have hA1 := hA.1
      rw [HCC.out] at hA1
      obtain ⟨z0, z1, z2, z3, z4, z5, z6, z7⟩ := hA1.cells
      obtain ⟨t0, t1, t2, t3, t4, t5, t6, t7⟩ := hA1.rcells
      obtain ⟨s0, s1, s2, s3, s4, s5, s6, s7⟩ := hA1.rfz
      have HL := hide (St.nums_length j (rdA l))
      have HA2 := hide hA
      clear hA hA1
      obtain ⟨A, c, rfl⟩ := HA2.out.2.form
      generalize St.nums j (rdA l) = ds at *
      go_wp2
      refine bodyPost_ret (v := .agg #[.int .i64 (k : Int), .int .i64 (t : Int), .int .i64 (p : Int), .int .i64 (s : Int), .string ⟨b.toArray⟩, .string ⟨a.toArray⟩, .string ⟨i.toArray⟩, .slice A ds.length c]) (by simp [results, Try.results22, go_sem, t0, t1, t2, t3, t4, t5, t6, t7]) rfl ⟨A, c, by rw [HR.out], ?_, ?_⟩
      · rw [HR.out]
        have hg : w.heap.size ≤ gr := Nat.le_of_lt HA2.out.1.lt
        exact ((((((((HA2.out.2.set (p := ⟨w.heap.size, 0, none⟩) hg _).set (p := ⟨w.heap.size, 1, none⟩) hg _).set (p := ⟨w.heap.size, 2, none⟩) hg _).set (p := ⟨w.heap.size, 3, none⟩) hg _).set (p := ⟨w.heap.size, 4, none⟩) hg _).set (p := ⟨w.heap.size, 5, none⟩) hg _).set (p := ⟨w.heap.size, 6, none⟩) hg _).set (p := ⟨w.heap.size, 7, none⟩) hg _).btw hg
      · exact grownBy_set_own (grownBy_set_own (grownBy_set_own (grownBy_set_own (grownBy_set_own (grownBy_set_own (grownBy_set_own (grownBy_set_own HA2.out.1.gone (Nat.le_refl _) _) (Nat.le_refl _) _) (Nat.le_refl _) _) (Nat.le_refl _) _) (Nat.le_refl _) _) (Nat.le_refl _) _) (Nat.le_refl _) _) (Nat.le_refl _) _
end Go.Proofs.Ytofnldmbokdkbaa
