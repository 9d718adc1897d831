/-
  What stage 7's statements lean on, part 1 of 6 (put together by merge.py).
-/
import Derived.WalkKit
import Derived.ProofKit
import Derived.Test.YtlplibgcfhamgaaRows
import Derived.Test.YtlplibgcfhamgaaChecked
import Derived.Deep.Draws
import Derived.Deep.OwnRows
import Derived.Maps.AppendAt
import Derived.Deep.RegionLaw
import Derived.Lib.SliceRun
import Derived.Lib.AppendStr
import Derived.Laws.BytesArg
import Derived.Laws.IdiomStrings
import Derived.WalkLawsBesides
import Derived.Deep.Slices
import Derived.Deep.Fields
import Derived.ChangeSame
import Derived.Lib.SmallJoins
import Derived.RegionTactic
import Derived.Laws.CopyRow
import Derived.RangeFuncNested
import Derived.RangeFuncBound
import Derived.RangeFuncCalls
import Derived.RangeFuncLeaves
import Derived.Shelf.Abstract
import Derived.Shelf.RegionOpen
import Derived.OwnWalkIn
import Derived.TacticsInMore
import Derived.LoopNIn
import Derived.LoopIn
import Derived.Laws.IdiomCopy
import Derived.Deep.MidRow
import Derived.Deep.Upon
import Derived.BigRegion
import Derived.Laws.Tables
import Derived.Great.BuildSlice
import Derived.Laws.CopyOwn
import Derived.OrdersIn
import Derived.BigQuiet
import Derived.ArgAppend
import Derived.Laws.Slices
import Derived.Deep.Cut
namespace Go.Proofs.Ytlplibgcfhamgaa
set_option linter.unusedSimpArgs false
set_option linter.unusedVariables false
section
/- One step for every law of a seat: where the walk of a law says 'it returns true, and of all that was there nothing has turned', the law's row holds: for every input. No premise beside the walk's. -/
open Go.ChangeShapes Go.WideShapes Go.ChangeAt Go.RowKit
set_option maxRecDepth 20000

section
variable {H : Type} {enc : TypeId × Value → H} {P : Program}

/-- All arguments read behind the call as they did before it. -/
theorem args_below {W W' : World} {sp : Nat → Bool} (hl : laidOutB P = true) (hb : Below W.heap.size W W') :
    ∀ (ts : List TypeId) (vs : List Value) (ds : List (DataW H)) (ps : List MemPlace), (ts.all fun t => P.readableRec t && decide (t < P.types.size)) = true →
      DataW.TrodAll enc P W 0 (fun _ => true) true ts vs ds ps → (∀ x ∈ ps, x.block < W.heap.size) → (∀ x ∈ ps, sp x.block = true) → DataW.TrodAll enc P W' 0 sp true ts vs ds ps
  | [], vs, ds, ps, _, h, _, _ => by
    obtain ⟨rfl, rfl, rfl⟩ := trodAll_nil h
    exact trodAll_mk0
  | t :: ts, vs, ds, ps, hr, h, hlt, hsp => by
    obtain ⟨v, vs', d, ds', p, q, rfl, rfl, rfl, hd, hrest⟩ := trodAll_cons h
    simp only [List.all_cons, Bool.and_eq_true, decide_eq_true_eq] at hr
    refine ⟨p, q, WideElems.Trod_stays hl hr.1.1 hr.1.2 hd (fun x hx => hb.same (hlt x (by simp [hx]))) (fun x hx => hsp x (by simp [hx])), ?_, rfl⟩
    exact args_below hl hb ts vs' ds' q hr.2 hrest (fun x hx => hlt x (by simp [hx])) (fun x hx => hsp x (by simp [hx]))

/-- What the row asks behind the call, of a law. -/
theorem law_post {f : Func} {s : ChangeSpec} {t : TypeId} {W W' : World} {args : Array Value} {ds gs : List (DataW H)} {before : List MemPlace}
    (hl : laidOutB P = true) (hr : (f.params.toList.all fun t => P.readableRec t && decide (t < P.types.size)) = true) (hres : f.resultTypes = #[t]) (ht : P.underlying t = some .bool) (hv : s.vars = [])
    (hfn : s.fn H (ds ++ gs) = { results := [.lit (.bool true)], args := ds })
    (hW : DataW.Whole enc P f.params.toList s.vars false W args.toList ds gs before) (hb : Below W.heap.size W W') :
    s.post enc P f false true false false W args (.bool true) W' := by
  obtain ⟨p, q, hA, hV, rfl, hz, hn⟩ := id hW
  have hlt : ∀ x ∈ p ++ q, x.block < W.heap.size := fun x hx => hW.lt x hx
  rw [hv] at hV
  obtain ⟨rfl, rfl⟩ := trodVars_none hV
  refine ⟨ds, [], p ++ [], [], p, [], hW, ?_, ?_, ?_, World.keptBut_mono (fun x hx => ⟨hx, .inr (.inl (by simpa using hx))⟩) (hb.frame (· ∈ p ++ [])), fun h => by cases h⟩
  · rw [hfn, hres]
    exact trodAll_mk1 (shut_bool ht true)
  · rw [hfn]
    exact args_below hl hb _ _ _ _ hr hA (fun x hx => hlt x (by simp [hx])) (fun x hx => by simpa using hlt x (by simp [hx]))
  · rw [hfn, hv]
    rfl
/-- A string that came in. -/
theorem open_str {w : World} {base b0 : Nat} {spare : Nat → Bool} {held : Bool} {r : Reach} {t : TypeId} {v : Value} {d : DataW H} {ps : List MemPlace} (ht : P.underlying t = some .string) (hval : Value.okWide P w r b0 t v) (hd : DataW.Trod enc P w base spare held t v d ps) :
    ∃ s : ByteArray, v = .string s ∧ s.size ≤ maxLen := by
  obtain ⟨s, rfl⟩ := okWide_string ht hval
  obtain ⟨fuel, hf⟩ := hd
  obtain ⟨s', h, _, hs⟩ := DataW.trod_string ht hf
  simp [Value.cells] at h
  subst h
  exact ⟨s, rfl, hs⟩
end

section
variable {C : Checked}
/-- The walk, lifted to the row's word on the whole run. -/
theorem law_lifted {H : Type} {enc : TypeId × Value → H} {os : Os} {f : FuncId} {fn : Func} {s : ChangeSpec} {t : TypeId}
    (own : ownKnob C.prog.godebug = none) (started : os.Started) (noInit : C.prog.inits.idxOf? f = none) (hf : C.prog.funcs[f]? = some fn)
    (hl : laidOutB C.prog = true) (hr : (fn.params.toList.all fun t => C.prog.readableRec t && decide (t < C.prog.types.size)) = true) (hres : fn.resultTypes = #[t]) (ht : C.prog.underlying t = some .bool) (hv : s.vars = [])
    (hfn : ∀ ds : List (DataW H), ds.length = fn.params.size → s.fn H ds = { results := [.lit (.bool true)], args := ds })
    (witness : ∃ (w : World) (tape : Tape) (i : Input), w.os = os ∧ (w.forCall tape i).Shaped C.prog ∧ i.vars = [] ∧ Input.okWide C.prog (w.forCall tape i) .any w.heap.size f i ∧
      s.pre6 enc C.prog fn [] false (w.forCall tape i).memory i.args ∧ ({} : Assume).holds C.prog (lone (Frame.enter C.prog f i.args .normal) [] (w.forCall tape i)))
    (walk : ∀ (W : World) (base : Nat) (args : Array Value) (ds : List (DataW H)) (p : List MemPlace),
      (∀ (j : Nat) t v, fn.params[j]? = some t → args[j]? = some v → Value.okWide C.prog W .any base t v) →
      DataW.TrodAll enc C.prog W 0 (fun _ => true) true fn.params.toList args.toList ds p → (∀ x ∈ p, x.block < W.heap.size) →
      Calls C.prog f args W fun e W' => e = .returned (.bool true) ∧ Below W.heap.size W W') :
    ReturnsInHanded {} C os f .any (s.pre6 enc C.prog fn [] false) (s.post enc C.prog fn false true false false) := by
  refine returnsInHanded_of_change own started noInit hf witness ?_
  intro W base args ds gs before hval hW _ _
  obtain ⟨p, q, hA, hV, rfl, hz, hn⟩ := id hW
  rw [hv] at hV
  obtain ⟨rfl, rfl⟩ := trodVars_none hV
  have hlen : ds.length = fn.params.size := by
    have : ∀ (ts : List TypeId) (vs : List Value) (ds : List (DataW H)) (ps : List MemPlace), DataW.TrodAll enc C.prog W 0 (fun _ => true) true ts vs ds ps → ds.length = ts.length := by
      intro ts
      induction ts with
      | nil => intro vs ds ps h; obtain ⟨_, rfl, _⟩ := trodAll_nil h; rfl
      | cons t ts ih =>
        intro vs ds ps h
        obtain ⟨v, vs', d, ds', p, q, rfl, rfl, rfl, hd, hrest⟩ := trodAll_cons h
        simp [ih _ _ _ hrest]
    rw [this _ _ _ _ hA]
    simp
  refine (walk W base args ds p hval hA (fun x hx => hW.lt x (by simp [hx]))).mono ?_
  · rintro e W' ⟨rfl, hb⟩
    exact ⟨_, rfl, law_post hl hr hres ht hv (by rw [List.append_nil]; exact hfn ds hlen) hW hb⟩
end
end
section
/- Closed facts on the loaded program. -/
theorem own : ownKnob Try.prog.godebug = none := by kernel_rfl
theorem laidOut : laidOutB Try.prog = true := by kernel_rfl
theorem cells8 : Try.prog.cellsOf 5 = 1 := by kernel_rfl
theorem info8 : (Try.prog.info? 5).map (fun i => (i.zero, i.size, i.bytes)) = some (some (.int .u8 0), 1, 1) := by kernel_rfl
theorem slice8 : Try.prog.underlying 31 = some (.slice (Try.prog.elem 31)) := by kernel_rfl
theorem size8 (w : World) : (sizeOf (Try.prog.elem 31)).run Try.prog w = .ok 1 w := by kernel_rfl
theorem info_parts {i : Option TypeInfo} {z : Option Value} {a b : Nat} (h : i.map (fun i => (i.zero, i.size, i.bytes)) = some (z, a, b)) : ∃ j, i = some j ∧ j.zero = z ∧ j.size = a ∧ j.bytes = b := by
  cases i with
  | none => cases h
  | some j => simp at h; exact ⟨j, rfl, h.1, h.2.1, h.2.2⟩
end
section
/- Memory: a slice that reads as a list (nil let in); a slice of bytes; what keeps such a reading. -/
open Go.ChangeShapes Go.WideShapes Go.ChangeAt Go.RowKit
set_option maxRecDepth 20000

/-- A fact laid behind a name, out of the walk's sight. -/
theorem hide {p : Prop} (h : p) : Hid p := h
/-- v is a slice whose elements, one cell each, are xs; its array lies below block B. -/
def Row (w : World) (B : Nat) (v : Value) (xs : List Value) : Prop :=
  ∃ A c, v = .slice A xs.length c ∧ xs.length ≤ c ∧ (0 < xs.length → ∃ b o, A = some ⟨b, o, none⟩ ∧ b < B ∧ ∀ j u, xs[j]? = some u → w.cell? ⟨b, o + j, none⟩ = some u)
/-- Bytes as cells hold them. -/
def u8s (l : List UInt8) : List Value := l.map fun x => .int .u8 (x.toNat : Int)
theorem u8s_length (l : List UInt8) : (u8s l).length = l.length := List.length_map ..
theorem u8s_get (l : List UInt8) (j : Nat) (h : j < l.length) : (u8s l)[j]? = some (.int .u8 (l[j].toNat : Int)) := by
  simp [u8s, h]
theorem u8s_take (l : List UInt8) (k : Nat) : u8s (l.take k) = (u8s l).take k := by simp [u8s]
theorem u8s_drop (l : List UInt8) (k : Nat) : u8s (l.drop k) = (u8s l).drop k := by simp [u8s]
theorem u8s_append (a b : List UInt8) : u8s (a ++ b) = u8s a ++ u8s b := List.map_append ..

section
variable {w w' : World} {B B' : Nat} {v : Value} {xs : List Value}
theorem Row.keep (h : Row w B v xs) (hk : ∀ p : Addr, p.block < B → w'.cell? p = w.cell? p) : Row w' B v xs := by
  obtain ⟨A, c, rfl, hc, hr⟩ := h
  refine ⟨A, c, rfl, hc, fun hn => ?_⟩
  obtain ⟨b, o, rfl, hb, hcell⟩ := hr hn
  exact ⟨b, o, rfl, hb, fun j u hu => (hk _ hb).trans (hcell j u hu)⟩
theorem Row.more (h : Row w B v xs) (hB : B ≤ B') : Row w B' v xs := by
  obtain ⟨A, c, rfl, hc, hr⟩ := h
  refine ⟨A, c, rfl, hc, fun hn => ?_⟩
  obtain ⟨b, o, rfl, hb, hcell⟩ := hr hn
  exact ⟨b, o, rfl, by omega, hcell⟩
theorem Row.below (h : Row w B v xs) (hb : Below B w w') : Row w' B v xs := h.keep fun _ hp => hb.cell hp
theorem Row.drew (h : Row w B v xs) : Row w.drew B v xs := h
theorem Row.drewN (h : Row w B v xs) (k : Nat) : Row (w.drewN k) B v xs := h
theorem Row.alloc (h : Row w B v xs) (hB : B ≤ w.heap.size) (o : Obj) : Row (w.alloc o) B v xs := h.keep fun p hp => World.cell?_alloc_lt w o p (by omega)
theorem Row.setCell (h : Row w B v xs) {p : Addr} (hB : B ≤ p.block) (u : Value) : Row (w.setCell p u) B v xs :=
  h.keep fun q hq => World.cell?_setCell_other w p q u (fun e => by subst e; omega)
theorem Row.nil_ (c : Nat) (A : Option Addr) : Row w B (.slice A 0 c) [] := ⟨A, c, rfl, Nat.zero_le _, fun h => absurd h (by simp)⟩

/-- A block of the call's own, known whole. -/
theorem Row.of_block {g n c : Nat} {cs : Array Value} {t : TypeId} {fr : Nat × Nat} (h : w.heap[g]? = some (.cells cs t fr)) (hn : n = cs.size) (hc : n ≤ c) (hB : g < B) : Row w B (.slice (some ⟨g, 0, none⟩) n c) cs.toList := by
  subst hn
  refine ⟨_, c, by rw [Array.length_toList], by simpa using hc, fun _ => ⟨g, 0, rfl, hB, fun j u hu => ?_⟩⟩
  rw [Nat.zero_add]
  unfold World.cell?
  simp only [h]
  simpa using hu
theorem heap_new (w : World) (o : Obj) : (w.alloc o).heap[w.heap.size]? = some o := by
  show (w.heap.push o)[w.heap.size]? = _
  simp
theorem heap_old (w : World) (o : Obj) (g : Nat) (x : Obj) (h : w.heap[g]? = some x) : (w.alloc o).heap[g]? = some x := by
  have hg : g < w.heap.size := by
    rcases Nat.lt_or_ge g w.heap.size with hlt | hge
    · exact hlt
    · rw [Array.getElem?_eq_none hge] at h; cases h
  exact (Below.heap_alloc w o g hg).trans h
theorem heap_new_drew (w : World) (o : Obj) : (w.alloc o).drew.heap[w.heap.size]? = some o := heap_new w o
theorem heap_at (w : World) (o : Obj) {g : Nat} (h : w.heap.size = g) : (w.alloc o).heap[g]? = some o := by subst h; exact heap_new w o
theorem heap_at_drew (w : World) (o : Obj) {g : Nat} (h : w.heap.size = g) : (w.alloc o).drew.heap[g]? = some o := by subst h; exact heap_new w o
theorem heap_at2_drew (w : World) (o o2 : Obj) {g : Nat} (h : w.heap.size = g) : ((w.alloc o).alloc o2).drew.heap[g]? = some o := heap_old _ _ _ _ (heap_at w o h)
theorem heap_old_drew (w : World) (o : Obj) (g : Nat) (x : Obj) (h : w.heap[g]? = some x) : (w.alloc o).drew.heap[g]? = some x := heap_old w o g x h
theorem Row.new_ (w : World) {n c : Nat} (cs : Array Value) (t : TypeId) (fr : Nat × Nat) (hn : n = cs.size) (hc : n ≤ c) : Row (w.alloc (.cells cs t fr)) (w.heap.size + 1) (.slice (some ⟨w.heap.size, 0, none⟩) n c) cs.toList :=
  Row.of_block (heap_new w _) hn hc (Nat.lt_succ_self _)

/-- A slice that reads as a list, its array among the world's blocks. -/
def Rd (w : World) (v : Value) (xs : List Value) : Prop := Row w w.heap.size v xs
theorem Rd.alloc (h : Rd w v xs) (o : Obj) : Rd (w.alloc o) v xs := (Row.alloc h (Nat.le_refl _) o).more (by simp)
theorem Rd.drew (h : Rd w v xs) : Rd w.drew v xs := h
theorem Rd.below (h : Rd w v xs) (hb : Below w.heap.size w w') : Rd w' v xs := (Row.below h hb).more hb.size
theorem Rd.nil_ (w : World) (A : Option Addr) (c : Nat) : Rd w (.slice A 0 c) [] := Row.nil_ _ _
theorem Rd.of_block {g n c : Nat} {cs : Array Value} {t : TypeId} {fr : Nat × Nat} (h : w.heap[g]? = some (.cells cs t fr)) (hn : n = cs.size) (hc : n ≤ c) : Rd w (.slice (some ⟨g, 0, none⟩) n c) cs.toList :=
  Row.of_block h hn hc (by
    rcases Nat.lt_or_ge g w.heap.size with hlt | hge
    · exact hlt
    · rw [Array.getElem?_eq_none hge] at h; cases h)
theorem Rd.new_ (w : World) {g n c : Nat} {xs : List Value} (cs : Array Value) (t : TypeId) (fr : Nat × Nat) (hg : w.heap.size = g) (hn : n = cs.size) (hc : n ≤ c) (hx : cs.toList = xs) : Rd (w.alloc (.cells cs t fr)) (.slice (some ⟨g, 0, none⟩) n c) xs := by
  subst hx
  exact Rd.of_block (heap_at w _ hg) hn hc
/-- Of all that was there nothing has turned. -/
def Abv (w w' : World) : Prop := Below w.heap.size w w'
theorem Abv.refl (w : World) : Abv w w := Below.refl _ _
theorem Abv.alloc {a : World} (h : Abv a w) (o : Obj) : Abv a (w.alloc o) := Below.alloc h (Below.size h) o
theorem Abv.drew {a : World} (h : Abv a w) : Abv a w.drew := Below.drew h
theorem Abv.trans {a b c : World} (h : Abv a b) (k : Abv b c) : Abv a c := Below.trans h (Below.mono k (Below.size h))

/-- A block of bytes, as its cells. -/
def blk8 (l : List UInt8) : Array Value := (u8s l).toArray
theorem blk8_size (l : List UInt8) : (blk8 l).size = l.length := by simp [blk8, u8s]
theorem blk8_get (l : List UInt8) (j : Nat) (h : j < l.length) : (blk8 l)[j]? = some (.int .u8 (l[j].toNat : Int)) := by
  simp [blk8, u8s, h]
theorem blk8_set (l : List UInt8) (j : Nat) (x : UInt8) : (blk8 l).setIfInBounds j (.int .u8 (x.toNat : Int)) = blk8 (l.set j x) := by
  apply Array.ext'
  simp [blk8, u8s, List.map_set]
/-- A block that is known whole. -/
def Blk (w : World) (g : Nat) (t : TypeId) (cs : Array Value) : Prop := w.heap[g]? = some (.cells cs t (0, 0))
theorem Blk.cell {g : Nat} {t : TypeId} {cs : Array Value} (h : Blk w g t cs) (i : Nat) (u : Value) (hi : cs[i]? = some u) : w.cell? ⟨g, i, none⟩ = some u := by
  unfold Blk at h
  unfold World.cell?
  simp only [h]
  simpa using hi
theorem Blk.frozen {g : Nat} {t : TypeId} {cs : Array Value} (h : Blk w g t cs) (i : Nat) : w.frozen? ⟨g, i, none⟩ = false := by
  unfold Blk at h
  unfold World.frozen?
  simp only [h]
  simp
theorem Blk.set_ {g : Nat} {t : TypeId} {cs : Array Value} (h : Blk w g t cs) (i : Nat) (u : Value) : Blk (w.setCell ⟨g, i, none⟩ u) g t (cs.setIfInBounds i u) := by
  unfold Blk at h ⊢
  simp [World.setCell, Array.getElem?_modify, h]
theorem Blk.drew {g : Nat} {t : TypeId} {cs : Array Value} (h : Blk w g t cs) : Blk w.drew g t cs := h
theorem Blk.alloc {g : Nat} {t : TypeId} {cs : Array Value} (h : Blk w g t cs) (o : Obj) : Blk (w.alloc o) g t cs := heap_old w o g _ h
theorem Blk.new_ (w : World) {g : Nat} (cs : Array Value) (t : TypeId) (hg : w.heap.size = g) : Blk (w.alloc (.cells cs t)) g t cs := heap_at w _ hg
theorem Blk.far {g : Nat} {t : TypeId} {cs : Array Value} (h : Blk w g t cs) {p : Addr} (hp : g ≠ p.block) (u : Value) : Blk (w.setCell p u) g t cs := (Below.heap_setCell w p u g hp).trans h
theorem Blk.lt {g : Nat} {t : TypeId} {cs : Array Value} (h : Blk w g t cs) : g < w.heap.size := by
  rcases Nat.lt_or_ge g w.heap.size with hlt | hge
  · exact hlt
  · unfold Blk at h; rw [Array.getElem?_eq_none hge] at h; cases h
theorem Blk.below {g : Nat} {t : TypeId} {cs : Array Value} (h : Blk w g t cs) (hb : Below w.heap.size w w') : Blk w' g t cs := (hb.block g h.lt).trans h
theorem Blk.rd {g n c : Nat} {t : TypeId} {cs : Array Value} (h : Blk w g t cs) (hn : n = cs.size) (hc : n ≤ c) : Rd w (.slice (some ⟨g, 0, none⟩) n c) cs.toList := Rd.of_block h hn hc
theorem Blk.rd8 {g n c : Nat} {t : TypeId} {l : List UInt8} (h : Blk w g t (blk8 l)) (hn : n = l.length) (hc : n ≤ c) : Rd w (.slice (some ⟨g, 0, none⟩) n c) (u8s l) := by
  have := Blk.rd h (n := n) (c := c) (by rw [blk8_size]; exact hn) hc
  simpa [blk8] using this
/-- make([]byte, n). -/
theorem run_make8 {P : Program} (t e : TypeId) (ht : P.underlying t = some (.slice e)) (hinfo : (P.info? e).map (fun i => (i.zero, i.size, i.bytes)) = some (some (.int .u8 0), 1, 1)) (n : Nat) (hn : n ≤ 281474976710656) (w : World) :
    (Instr.makeSlice t (.int .i64 (n : Int)) (.int .i64 (n : Int))).run P w = .ok (.slice (some ⟨w.heap.size, 0, none⟩) n n) (w.alloc (.cells (blk8 (List.replicate n 0)) e)) := by
  rw [run_make_row' t e (.int .u8 0) 1 ht hinfo rfl .i64 .i64 n (by omega) (by omega) w]
  have : madeCells #[.int .u8 0] n = blk8 (List.replicate n 0) := by
    apply Array.ext'
    rw [toList_madeCells_one]
    simp [blk8, u8s]
  rw [this]

/-- Where a slice begins that is cut off its first k elements. -/
def hiA (A : Option Addr) (c k : Nat) : Option Addr := if c = k then A else A.map (·.add k)
theorem Row.low {A : Option Addr} {n c k : Nat} (h : Row w B (.slice A n c) xs) (hk : k ≤ n) : Row w B (.slice A k c) (xs.take k) := by
  obtain ⟨A', c', he, hc, hr⟩ := h
  injection he with h1 h2 h3
  subst h1 h2 h3
  have hl : (xs.take k).length = k := by rw [List.length_take]; omega
  refine ⟨A, c, by rw [hl], by omega, fun hn => ?_⟩
  obtain ⟨b, o, rfl, hb, hcell⟩ := hr (by omega)
  refine ⟨b, o, rfl, hb, fun j u hu => hcell j u ?_⟩
  rw [List.getElem?_take] at hu
  split at hu
  · exact hu
  · cases hu
theorem Row.high {A : Option Addr} {n c k : Nat} (h : Row w B (.slice A n c) xs) (hk : k ≤ n) : Row w B (.slice (hiA A c k) (n - k) (c - k)) (xs.drop k) := by
  obtain ⟨A', c', he, hc, hr⟩ := h
  injection he with h1 h2 h3
  subst h1 h2 h3
  have hl : (xs.drop k).length = xs.length - k := List.length_drop ..
  refine ⟨_, _, by rw [hl], by omega, fun hn => ?_⟩
  obtain ⟨b, o, rfl, hb, hcell⟩ := hr (by omega)
  have hck : c ≠ k := by omega
  refine ⟨b, o + k, ?_, hb, fun j u hu => ?_⟩
  · simp [hiA, hck, Addr.add]
  · rw [show o + k + j = o + (k + j) by omega]
    exact hcell (k + j) u (by rw [← hu, List.getElem?_drop])
theorem Rd.low {A : Option Addr} {n c k : Nat} {l : List UInt8} (h : Rd w (.slice A n c) (u8s l)) (hk : k ≤ n) : Rd w (.slice A k c) (u8s (l.take k)) := by
  rw [u8s_take]; exact Row.low h hk
theorem Rd.high {A : Option Addr} {n c k : Nat} {l : List UInt8} (h : Rd w (.slice A n c) (u8s l)) (hk : k ≤ n) : Rd w (.slice (hiA A c k) (n - k) (c - k)) (u8s (l.drop k)) := by
  rw [u8s_drop]; exact Row.high h hk
theorem run_low {P : Program} {t : TypeId} (ht : P.underlying t = some (.slice (P.elem t))) (hs : ∀ w, (sizeOf (P.elem t)).run P w = .ok 1 w) (A : Option Addr) (n c k : Nat) (hk : k ≤ c) (w : World) :
    (Instr.slice t (.slice A n c) none (some (.int .i64 (k : Int))) none).run P w = .ok (.slice A k c) w := by
  rw [run_slice_h w t A n c ht .i64 k (by omega) (by omega), hs]
  simp only [Result.andThen, sliced]
  have : (A.map fun x => x.add (0 * 1)) = A := by cases A <;> simp [Addr.add]
  rw [this]
  simp
theorem run_high {P : Program} {t : TypeId} (ht : P.underlying t = some (.slice (P.elem t))) (hs : ∀ w, (sizeOf (P.elem t)).run P w = .ok 1 w) (A : Option Addr) (n c k : Nat) (hk : k ≤ n) (w : World) :
    (Instr.slice t (.slice A n c) (some (.int .i64 (k : Int))) none none).run P w = .ok (.slice (hiA A c k) (n - k) (c - k)) w := by
  rw [run_slice_l w t A n c ht .i64 k (by omega) (by omega), hs]
  simp [Result.andThen, sliced, hiA]

/-- The cells of a slice of bytes that came in. -/
theorem open_bytes_cells {H : Type} {enc : TypeId × Value → H} {P : Program} {base fuel : Nat} {spare : Nat → Bool} {held : Bool} {t e : TypeId} {cs : List Value} {d : DataW H} {ps : List MemPlace}
    (ht : P.underlying t = some (.slice e)) (he : P.underlying e = some (.int .u8)) (hc : P.cellsOf e = 1)
    (hf' : DataW.trod enc P w base spare held fuel t cs = some (d, ps)) (hlt : ∀ x ∈ ps, x.block < B) :
    ∃ (v : Value) (l : List UInt8), cs = [v] ∧ l.length ≤ maxLen ∧ Row w B v (u8s l) := by
  rcases open_ints ht he hc hf' with ⟨h0, _⟩ | ⟨a, len, cap, zs, h0, _, hlc, hcm, hzl, hx, hcell, hwf⟩
  · exact ⟨_, [], h0, by simp, Row.nil_ _ _⟩
  · subst h0
    have hle : len ≤ zs.length := by rw [hzl]; split <;> omega
    have hin : ∀ j (h : j < zs.length), ((UInt8.ofNat (zs[j].toNat)).toNat : Int) = zs[j] := by
      intro j h
      have := hwf _ (List.getElem_mem h)
      simp only [Lit.wf, Bool.and_eq_true, decide_eq_true_eq] at this
      have h1 : IntKind.u8.min = 0 := rfl
      have h2 : IntKind.u8.max = 255 := rfl
      rw [h1, h2] at this
      simp only [UInt8.toNat_ofNat']
      omega
    refine ⟨_, (zs.take len).map fun z => UInt8.ofNat z.toNat, rfl, by simp; omega, ?_⟩
    have hlen : (u8s ((zs.take len).map fun z => UInt8.ofNat z.toNat)).length = len := by simp [u8s]; omega
    refine ⟨some a, cap, by rw [hlen], by omega, fun hn => ?_⟩
    rw [hlen] at hn
    have h0 := hcell 0 (by omega)
    have hspot : a.spot = none := by
      have e : a.add 0 = a := by simp [Addr.add]
      rw [e] at h0
      unfold World.cell? at h0
      cases hs : a.spot with
      | none => rfl
      | some k =>
        rw [hs] at h0
        revert h0
        split <;> simp
    obtain ⟨b, o, sp⟩ := a
    obtain rfl : sp = none := hspot
    have hadd : ∀ j, (⟨b, o, none⟩ : Addr).add j = ⟨b, o + j, none⟩ := by
      intro j
      simp [Addr.add]
      try omega
    refine ⟨b, o, rfl, ?_, fun j u hu => ?_⟩
    · have : (MemPlace.row ⟨b, o, none⟩ zs.length) = ps := (congrArg Prod.snd hx).symm
      have hmem : MemPlace.cell b (o + 0) ∈ ps := by
        rw [← this]
        simp [MemPlace.row]
        omega
      exact hlt _ hmem
    · have hj : j < len := by
        have := (List.getElem?_eq_some_iff.1 hu).1
        omega
      have hjz : j < zs.length := by omega
      have hj2 : j < ((zs.take len).map fun z => UInt8.ofNat z.toNat).length := by simp; omega
      rw [u8s_get _ j hj2] at hu
      injection hu with hu
      subst hu
      rw [← hadd, hcell j hjz]
      simp only [List.getElem_map, List.getElem_take, hin j hjz]
      simp [List.getD, hjz]
/-- A slice of bytes that came in. -/
theorem open_bytes {H : Type} {enc : TypeId × Value → H} {P : Program} {base b0 : Nat} {spare : Nat → Bool} {held : Bool} {r : Reach} {t e : TypeId} {v : Value} {d : DataW H} {ps : List MemPlace}
    (ht : P.underlying t = some (.slice e)) (he : P.underlying e = some (.int .u8)) (hc : P.cellsOf e = 1) (hval : Value.okWide P w r b0 t v)
    (hd : DataW.Trod enc P w base spare held t v d ps) (hlt : ∀ x ∈ ps, x.block < B) :
    ∃ l : List UInt8, l.length ≤ maxLen ∧ Row w B v (u8s l) := by
  obtain ⟨a0, len, cap, rfl⟩ := okWide_slice ht hval
  obtain ⟨fuel, hf⟩ := hd
  have hf' : DataW.trod enc P w base spare held fuel t [.slice a0 len cap] = some (d, ps) := by simpa [Value.cells] using hf
  obtain ⟨v, l, h1, h2, h3⟩ := open_bytes_cells ht he hc hf' hlt
  injection h1 with h1
  subst h1
  exact ⟨l, h2, h3⟩
end
end
section
/- append onto a row of the call's own, the source any slice that reads as a list (nil, empty or not). -/
open Go.RowKit
set_option maxRecDepth 20000

theorem own_rd {w : World} {base : Nat} {e : TypeId} {v : Value} {n : Nat} {xs : List Value} (h : w.ownsRow base e 1 v n xs) : Rd w v xs := by
  obtain ⟨hl, hcase⟩ := h
  rw [Nat.mul_one] at hl
  rcases hcase with ⟨rfl, rfl⟩ | ⟨g, cap, cur, rfl, hg, hh, hn, hcap, hsz, htake⟩
  · obtain rfl := List.eq_nil_of_length_eq_zero hl
    exact Rd.nil_ _ _ _
  · subst hl
    refine ⟨_, cap, rfl, hn, fun hpos => ⟨g, 0, rfl, ?_, fun j u hu => ?_⟩⟩
    · rcases Nat.lt_or_ge g w.heap.size with hlt | hge
      · exact hlt
      · rw [Array.getElem?_eq_none hge] at hh; cases hh
    · rw [Nat.zero_add]
      unfold World.cell?
      simp only [hh]
      rw [← htake, Nat.mul_one, List.getElem?_take] at hu
      split at hu
      · simpa using hu
      · cases hu
theorem own_nil (w : World) (base : Nat) (e : TypeId) : w.ownsRow base e 1 (.slice none 0 0) 0 [] := ⟨rfl, .inl ⟨rfl, rfl⟩⟩
/-- What a row of one's own looks like: a slice. -/
theorem own_form {w : World} {base : Nat} {e : TypeId} {v : Value} {n : Nat} {xs : List Value} (h : w.ownsRow base e 1 v n xs) : ∃ A c, v = .slice A n c := by
  rcases h.2 with ⟨rfl, rfl⟩ | ⟨g, cap, cur, rfl, _⟩
  · exact ⟨_, _, rfl⟩
  · exact ⟨_, _, rfl⟩

section
variable {P : Program} {w : World}
theorem run_append_nil {base : Nat} (t ty e : TypeId) (i : TypeInfo) (ht : P.underlying t = some (.slice e)) (hi : P.info? e = some i) (v : Value) (n : Nat) (xs : List Value) (hown : w.ownsRow base e 1 v n xs) (c : Nat) :
    (Builtin.append_ #[t, t] ty #[v, .slice none 0 c]).run P w = .ok v w := by
  rcases hown.2 with ⟨rfl, rfl⟩ | ⟨g, cap, cur, rfl, _, _, hnc, _⟩
  · simp [Builtin.append_, run_underlying ht, sizeOf, typeInfo, hi, Builtin.lenOf, Builtin.firstCells]
  · simp [Builtin.append_, run_underlying ht, sizeOf, typeInfo, hi, Builtin.lenOf, Builtin.firstCells, hnc, storeCells]
theorem addr_add (b o j : Nat) : (⟨b, o, none⟩ : Addr).add j = ⟨b, o + j, none⟩ := by
  unfold Addr.add
  split
  · rename_i h; subst h; rfl
  · rfl
/-- append(v, x...), v a row of the call's own. -/
theorem run_append_rd {base : Nat} (t ty e : TypeId) (i : TypeInfo) (z : Value) (bytes : Nat) (ht : P.underlying t = some (.slice e)) (hi : P.info? e = some i) (hz : i.zero = some z)
    (hsize : i.size = 1) (hby : i.bytes = bytes) (hzs : z.cells.size = 1) (v : Value) (n : Nat) (xs : List Value) (hown : w.ownsRow base e 1 v n xs)
    (x : Value) (ys : List Value) (hx : Rd w x ys) (h1 : ∀ u ∈ ys, u.oneCell' = true) (h63 : n + ys.length ≤ maxLen) (hbytes : (n + ys.length) * bytes ≤ 140737488355328) (hbase : base ≤ w.heap.size) :
    ∃ v' w', (Builtin.append_ #[t, t] ty #[v, x]).run P w = .ok v' w' ∧ w'.ownsRow base e 1 v' (n + ys.length) (xs ++ ys) ∧ w.grownBy w' v.ownBlock ∧ (v'.ownBlock = v.ownBlock ∨ v'.ownBlock = some w.heap.size) := by
  obtain ⟨A, c, rfl, hc, hA⟩ := hx
  rcases Nat.eq_zero_or_pos ys.length with h0 | hpos
  · obtain rfl := List.eq_nil_of_length_eq_zero h0
    rcases A with _ | ad
    · exact ⟨v, w, run_append_nil t ty e i ht hi v n xs hown c, by simpa using hown, World.grownBy.refl w _, .inl rfl⟩
    · obtain ⟨v', w', hrun, h2, h3, _, h5⟩ := run_append_own_at (P := P) w base t ty e i z 1 bytes ht hi hz hsize hby hzs (by omega) v n xs hown ad 0 c [] rfl (by simp) (by simp) (by simpa using h63) (by simpa using hbytes) hbase
      exact ⟨v', w', hrun, h2, h3, h5⟩
  · obtain ⟨b, o, rfl, hb, hcell⟩ := hA hpos
    obtain ⟨v', w', hrun, h2, h3, _, h5⟩ := run_append_own_at (P := P) w base t ty e i z 1 bytes ht hi hz hsize hby hzs (by omega) v n xs hown ⟨b, o, none⟩ ys.length c ys (by simp)
      (fun j u hu => by rw [addr_add]; exact hcell j u hu) h1 h63 hbytes hbase
    exact ⟨v', w', hrun, h2, h3, h5⟩
/-- The same as one step of a region. -/
theorem step_append_rd {ops : Array Oper} {o : Oper} {a : Act} {K : Act → World → Prop} {Q : Exit → Act → World → Prop} {E : Prop} (hw : Region.wanted o (yielded ops a.tmps) = true) (s y : Operand) (t : TypeId)
    (ho : o.op = .call { callee := .builtin .append, args := #[s, y], argTypes := #[t, t] })
    {base : Nat} (e : TypeId) (i : TypeInfo) (z : Value) (bytes : Nat) (ht : P.underlying t = some (.slice e)) (hi : P.info? e = some i) (hz : i.zero = some z)
    (hsize : i.size = 1) (hby : i.bytes = bytes) (hzs : z.cells.size = 1) (v : Value) (n : Nat) (xs : List Value) (hs : a.eval s = v) (hown : w.ownsRow base e 1 v n xs)
    (x : Value) (ys : List Value) (hy : a.eval y = x) (hx : Rd w x ys) (h1 : ∀ u ∈ ys, u.oneCell' = true) (h63 : n + ys.length ≤ maxLen) (hbytes : (n + ys.length) * bytes ≤ 140737488355328) (hbase : base ≤ w.heap.size)
    (h : ∀ v' w', w'.ownsRow base e 1 v' (n + ys.length) (xs ++ ys) → w.grownBy w' v.ownBlock → (v'.ownBlock = v.ownBlock ∨ v'.ownBlock = some w.heap.size) → K (a.put o.dst v') w') :
    if Region.wanted o (yielded ops a.tmps) = true then Oper.wp P o a w K Q else E := by
  rw [if_pos hw]
  obtain ⟨v', w', hrun, h2, h3, h4⟩ := run_append_rd (P := P) t o.type e i z bytes ht hi hz hsize hby hzs v n xs hown x ys hx h1 h63 hbytes hbase
  unfold Oper.wp execOp
  simp only [ho, resolve, invoke, builtin, Sem.run_bind, Sem.run_pure, Result.andThen_ok, List.map_toArray, List.map_cons, List.map_nil, hs, hy, hrun]
  exact h v' w' h2 h3 h4
/-- The same as one step of a plain region. -/
theorem wpList_append_rd {ops : Array Oper} {rest : List Oper} {o : Oper} {a : Act} {Q : Exit → Act → World → Prop} (hgd : o.guard = none) (s y : Operand) (t : TypeId)
    (ho : o.op = .call { callee := .builtin .append, args := #[s, y], argTypes := #[t, t] })
    {base : Nat} (e : TypeId) (i : TypeInfo) (z : Value) (bytes : Nat) (ht : P.underlying t = some (.slice e)) (hi : P.info? e = some i) (hz : i.zero = some z)
    (hsize : i.size = 1) (hby : i.bytes = bytes) (hzs : z.cells.size = 1) (v : Value) (n : Nat) (xs : List Value) (hs : a.eval s = v) (hown : w.ownsRow base e 1 v n xs)
    (x : Value) (ys : List Value) (hy : a.eval y = x) (hx : Rd w x ys) (h1 : ∀ u ∈ ys, u.oneCell' = true) (h63 : n + ys.length ≤ maxLen) (hbytes : (n + ys.length) * bytes ≤ 140737488355328) (hbase : base ≤ w.heap.size)
    (h : ∀ v' w', w'.ownsRow base e 1 v' (n + ys.length) (xs ++ ys) → w.grownBy w' v.ownBlock → (v'.ownBlock = v.ownBlock ∨ v'.ownBlock = some w.heap.size) → wpList P ops Q rest (a.put o.dst v') w') : wpList P ops Q (o :: rest) a w := by
  refine wpList_plain hgd fun K hK => ?_
  obtain ⟨v', w', hrun, h2, h3, h4⟩ := run_append_rd (P := P) t o.type e i z bytes ht hi hz hsize hby hzs v n xs hown x ys hx h1 h63 hbytes hbase
  unfold Oper.wp execOp
  simp only [ho, resolve, invoke, builtin, Sem.run_bind, Sem.run_pure, Result.andThen_ok, List.map_toArray, List.map_cons, List.map_nil, hs, hy, hrun]
  exact hK _ _ (h v' w' h2 h3 h4)
end
theorem oneCell_u8s (l : List UInt8) : ∀ u ∈ u8s l, u.oneCell' = true := by
  intro u hu
  simp only [u8s, List.mem_map] at hu
  obtain ⟨x, _, rfl⟩ := hu
  rfl
end
section
/- Numbers as bytes, the highest first, and back; a reader's three calls on lists. -/
open Go.RowKit
set_option maxRecDepth 20000

/-- The number's lowest n bytes, the highest first. -/
def be : Nat → Nat → List UInt8
  | 0, _ => []
  | n + 1, x => be n (x / 256) ++ [UInt8.ofNat x]
/-- The number that bytes stand for, the highest first. -/
def val (l : List UInt8) : Nat := l.foldl (fun x b => x * 256 + b.toNat) 0
theorem be_length : ∀ n x, (be n x).length = n
  | 0, _ => rfl
  | n + 1, x => by simp [be, be_length n]
theorem val_nil : val [] = 0 := rfl
theorem val_snoc (l : List UInt8) (b : UInt8) : val (l ++ [b]) = val l * 256 + b.toNat := by simp [val]
theorem fold_from (l : List UInt8) : ∀ a, l.foldl (fun x b => x * 256 + b.toNat) a = a * 256 ^ l.length + val l := by
  induction l with
  | nil => intro a; simp [val_nil]
  | cons b l ih =>
    intro a
    show l.foldl _ (a * 256 + b.toNat) = a * 256 ^ (l.length + 1) + l.foldl _ (0 * 256 + b.toNat)
    rw [ih, ih, Nat.pow_succ]
    simp only [Nat.add_mul, Nat.zero_mul, Nat.zero_add, Nat.mul_assoc, Nat.add_assoc, Nat.mul_comm 256]
theorem val_append (l m : List UInt8) : val (l ++ m) = val l * 256 ^ m.length + val m := by
  show (l ++ m).foldl _ 0 = _
  rw [List.foldl_append]
  exact fold_from m (val l)
theorem val_lt (l : List UInt8) : val l < 256 ^ l.length := by
  induction l with
  | nil => simp [val_nil]
  | cons b l ih =>
    have h : val (b :: l) = b.toNat * 256 ^ l.length + val l := by
      show l.foldl _ (0 * 256 + b.toNat) = _
      rw [fold_from, Nat.zero_mul, Nat.zero_add]
    rw [h, List.length_cons, Nat.pow_succ]
    have := b.toNat_lt
    have h2 : (b.toNat + 1) * 256 ^ l.length ≤ 256 * 256 ^ l.length := Nat.mul_le_mul_right _ (by omega)
    rw [Nat.add_mul, Nat.one_mul] at h2
    rw [Nat.mul_comm _ 256]
    omega
theorem val_be : ∀ n x, val (be n x) = x % 256 ^ n
  | 0, x => by simp [be, val_nil, Nat.mod_one]
  | n + 1, x => by
    rw [be, val_snoc, val_be n, UInt8.toNat_ofNat']
    have h : x % 256 ^ (n + 1) = x % 256 + 256 * (x / 256 % 256 ^ n) := by rw [Nat.pow_succ, Nat.mul_comm, Nat.mod_mul]
    rw [h]
    show _ + x % 256 = _
    omega
theorem be_snoc (n i x : Nat) (h : i < n) : be i (x / 256 ^ (n - i)) ++ [UInt8.ofNat (x / 256 ^ (n - 1 - i))] = be (i + 1) (x / 256 ^ (n - (i + 1))) := by
  rw [be, Nat.div_div_eq_div_mul, show 256 ^ (n - (i + 1)) * 256 = 256 ^ (n - i) by rw [← Nat.pow_succ]; congr 1; omega, show n - (i + 1) = n - 1 - i by omega]

/-- A reader: what is left, and whether it has failed. -/
structure St where
  rest : List UInt8
  bad : Bool
/-- Can n bytes be taken? -/
def St.can (s : St) (n : Int) : Bool := !s.bad && decide (0 ≤ n) && decide (n ≤ (s.rest.length : Int))
def St.failed (s : St) : St := ⟨s.rest, true⟩
def St.take (s : St) (n : Int) : St := if s.can n then ⟨s.rest.drop n.toNat, false⟩ else s.failed
def St.got (s : St) (n : Int) : List UInt8 := if s.can n then s.rest.take n.toNat else []
def St.numSt (s : St) (n : Int) : St := if 1 ≤ n ∧ n ≤ 8 then s.take n else s.failed
def St.num (s : St) (n : Int) : Nat := if 1 ≤ n ∧ n ≤ 8 then val (s.got n) else 0
def St.textSt (s : St) : St := (s.numSt 1).take (s.num 1)
def St.text (s : St) : List UInt8 := (s.numSt 1).got (s.num 1)
theorem St.got_length (s : St) (n : Int) : (s.got n).length ≤ s.rest.length := by
  unfold St.got
  split
  · rw [List.length_take]; omega
  · simp
theorem St.take_length (s : St) (n : Int) : (s.take n).rest.length ≤ s.rest.length := by
  unfold St.take
  split
  · simp only [List.length_drop]; omega
  · exact Nat.le_refl _
theorem St.numSt_length (s : St) (n : Int) : (s.numSt n).rest.length ≤ s.rest.length := by
  unfold St.numSt
  split
  · exact s.take_length n
  · exact Nat.le_refl _
theorem St.textSt_length (s : St) : s.textSt.rest.length ≤ s.rest.length := Nat.le_trans (St.take_length _ _) (s.numSt_length 1)
theorem St.got_le (s : St) (n : Int) (h : n ≤ 8) : (s.got n).length ≤ 8 := by
  unfold St.got
  split
  · rw [List.length_take]; omega
  · simp
theorem St.num_lt (s : St) (n : Int) : s.num n < 18446744073709551616 := by
  unfold St.num
  split
  · rename_i h
    have h1 := val_lt (s.got n)
    have h2 : 256 ^ (s.got n).length ≤ 256 ^ 8 := Nat.pow_le_pow_right (by omega) (s.got_le n h.2)
    omega
  · omega
theorem St.num1_lt (s : St) : s.num 1 < 256 := by
  unfold St.num
  rw [if_pos (by omega)]
  have h1 := val_lt (s.got 1)
  have h3 : (s.got 1).length ≤ 1 := by
    unfold St.got
    split
    · rw [List.length_take]; omega
    · simp
  have h2 : 256 ^ (s.got 1).length ≤ 256 ^ 1 := Nat.pow_le_pow_right (by omega) h3
  omega
end
section
/- Contracts: a copy of bytes; a number laid behind bytes. -/
open Go.RowKit
set_option maxRecDepth 20000

/-- A row of the call's own, of bytes. -/
def Mine (w : World) (base : Nat) (v : Value) (l : List UInt8) : Prop := w.ownsRow base 5 1 v l.length (u8s l)
theorem Mine.rd {w : World} {base : Nat} {v : Value} {l : List UInt8} (h : Mine w base v l) : Rd w v (u8s l) := own_rd h
theorem Mine.form {w : World} {base : Nat} {v : Value} {l : List UInt8} (h : Mine w base v l) : ∃ A c, v = .slice A l.length c := own_form h

/-- A copy. -/
theorem clone_any (v : Value) (l : List UInt8) (w : World) (hm : l.length ≤ 70368744177664) (hv : Rd w v (u8s l)) :
    Calls Try.prog 27 #[v] w fun e w' => ∃ v', e = .returned v' ∧ Mine w' w.heap.size v' l ∧ Below w.heap.size w w' := by
  obtain ⟨A, c, rfl, hc, hA⟩ := id hv
  rw [u8s_length] at hA hc hv ⊢
  have q22 : ∀ (w : World) (a : Option Addr) (n c n' c' : Nat), (binOp .eql 31 (.slice a n c) (.slice none n' c')).run Try.prog w = .ok (.bool a.isNone) w := fun w a n c n' c' => Lib.run_eql_slice_nil w _ _ a n c n' c' Try.underlying31
  obtain ⟨i0, hi, hz0, hz1, hz2⟩ := info_parts info8
  rcases A with _ | ad
  · have h0 : l = [] := by
      rcases Nat.eq_zero_or_pos l.length with h | h
      · exact List.eq_nil_of_length_eq_zero h
      · obtain ⟨_, _, h, _⟩ := hA h; cases h
    subst h0
    clear hA hv hc
    go_enter Try.func27, Try.ntmps27
    go_wp2
    go_ret
    exact ⟨_, rfl, own_nil _ _ _, Below.refl _ _⟩
  · have hl := hide (show 0 + (u8s l).length ≤ maxLen by rw [u8s_length]; unfold maxLen; omega)
    have hl2 := hide (show (0 + (u8s l).length) * 1 ≤ 140737488355328 by rw [u8s_length]; omega)
    have hr := hide (hv.alloc (.cells #[] 5))
    have ho := hide (show (w.alloc (.cells #[] 5)).ownsRow w.heap.size 5 1 (.slice (some ⟨w.heap.size, 0, none⟩) 0 0) 0 [] from
      ⟨rfl, .inr ⟨w.heap.size, 0, #[], rfl, Nat.le_refl _, heap_new _ _, Nat.le_refl _, by unfold maxLen; omega, rfl, rfl⟩⟩)
    have hb := hide (show w.heap.size ≤ (w.alloc (.cells #[] 5)).heap.size by simp)
    have hbe := hide ((Below.refl w.heap.size w).alloc (Nat.le_refl _) (.cells #[] 5))
    go_enter Try.func27, Try.ntmps27
    clear hA hv
    go_wp2_with (at_builtin; refine wpList_append_rd rfl (.tmp 5) (.tmp 6) 31 rfl (base := w.heap.size) 5 i0 (.int .u8 0) 1 Try.underlying31 hi hz0 hz1 hz2 rfl (.slice (some ⟨w.heap.size, 0, none⟩) 0 0) 0 [] rfl ho.out (.slice (some ad) l.length c) (u8s l) rfl hr.out (oneCell_u8s l) hl.out hl2.out hb.out ?_; intro v2 w2 hown hgrow hat_)
    go_ret
    refine ⟨_, rfl, ?_, hbe.out.grown hgrow (by simp) ?_⟩
    · rw [Nat.zero_add, u8s_length, List.nil_append] at hown; exact hown
    · intro k hk; simp [Value.ownBlock] at hk; omega
end
section
/- Contracts: Put and Text of package pack. -/
open Go.RowKit
set_option maxRecDepth 20000

theorem Mine.alloc {w : World} {base : Nat} {v : Value} {l : List UInt8} (h : Mine w base v l) (o : Obj) : Mine (w.alloc o) base v l := World.ownsRow.alloc h o
theorem byte_shift (x m : Nat) : (x : Int) / 2 ^ (8 * m) % 256 = ((UInt8.ofNat (x / 256 ^ m)).toNat : Int) := by
  rw [UInt8.toNat_ofNat', show (256 : Nat) ^ m = 2 ^ (8 * m) by rw [Nat.pow_mul]]
  simp
theorem be_step (l : List UInt8) (n i x : Nat) (h : i < n) : (l ++ be i (x / 256 ^ (n - i))) ++ [UInt8.ofNat (x / 256 ^ (n - 1 - i))] = l ++ be (i + 1) (x / 256 ^ (n - (i + 1))) := by
  rw [List.append_assoc, be_snoc n i x h]

set_option maxHeartbeats 1000000 in
/-- A number behind bytes. -/
theorem put_any (v : Value) (l : List UInt8) (n x : Nat) (w : World) (hm : l.length ≤ 70368744177000) (hn1 : 1 ≤ n) (hn8 : n ≤ 8) (hv : Rd w v (u8s l)) :
    Calls Try.prog 21 #[v, .int .i64 (n : Int), .int .u64 (x : Int)] w fun e w' => ∃ v', e = .returned v' ∧ Mine w' w.heap.size v' (l ++ be n x) ∧ Below w.heap.size w w' := by
  obtain ⟨i0, hi, hz0, hz1, hz2⟩ := info_parts info8
  go_enter Try.func21, Try.ntmps21
  go_wp2_with (go_at_call 27; refine (clone_any v l _ (by omega) hv).mono ?_; rintro e w1 ⟨v1, rfl, hown, hb1⟩)
  go_loopw [7, 16] (fun u i wr => ∃ k : Nat, k ≤ n ∧ i = .int .i64 k ∧ Mine wr w.heap.size u (l ++ be k (x / 256 ^ (n - k))) ∧ Below w.heap.size w wr) (fun _ i _ => n - (intOf i).toNat)
  case atStart => exact ⟨0, by omega, rfl, by simpa [be] using hown, hb1⟩
  case round =>
    obtain ⟨k, hk, rfl, hmine, hbe⟩ := hrel
    by_cases hlt : k < n
    · have HS := hide (be_step l n k x hlt)
      have HB := byte_shift x (n - 1 - k)
      generalize UInt8.ofNat (x / 256 ^ (n - 1 - k)) = y at *
      have hll : (l ++ be k (x / 256 ^ (n - k))).length = l.length + k := by simp [be_length]
      generalize l ++ be k (x / 256 ^ (n - k)) = lk at *
      have ho := hide (hmine.alloc (.cells #[.int .u8 (y.toNat : Int)] 5))
      have hr := hide (show Rd (wr.alloc (.cells #[.int .u8 (y.toNat : Int)] 5)) (.slice (some ⟨wr.heap.size, 0, none⟩) 1 1) (u8s [y]) from Rd.new_ wr _ _ _ rfl rfl (Nat.le_refl _) rfl)
      have hl := hide (show lk.length + (u8s [y]).length ≤ maxLen by rw [u8s_length, hll]; unfold maxLen; simp; omega)
      have hl2 := hide (show (lk.length + (u8s [y]).length) * 1 ≤ 140737488355328 by rw [u8s_length, hll]; simp; omega)
      have hbs := hide (show w.heap.size ≤ (wr.alloc (.cells #[.int .u8 (y.toNat : Int)] 5)).heap.size by simp; have := hbe.size; omega)
      have hbe' := hide (hbe.alloc hbe.size (.cells #[.int .u8 (y.toNat : Int)] 5))
      have hbk := hide (show ∀ k, u7.ownBlock = some k → w.heap.size ≤ k from fun k hk => (World.ownsRow.lt hmine k hk).1)
      clear hmine hbe hown hb1
      go_wp2_with (at_builtin; refine wpList_append_rd rfl (.tmp 19) (.tmp 28) 31 rfl (base := w.heap.size) 5 i0 (.int .u8 0) 1 Try.underlying31 hi hz0 hz1 hz2 rfl u7 lk.length (u8s lk) rfl ho.out (.slice (some ⟨wr.heap.size, 0, none⟩) 1 1) (u8s [y]) rfl hr.out (oneCell_u8s [y]) hl.out hl2.out hbs.out ?_; intro v2 w2 hown hgrow hat_)
      have hown2 : Mine w2 w.heap.size v2 (lk ++ [y]) := by
        unfold Mine; rw [u8s_append, List.length_append, ← u8s_length [y]]; exact hown
      have hbe2 := hbe'.out.grown hgrow hbs.out hbk.out
      go_round
      case rel => exact ⟨k + 1, by omega, by go_num, by rw [← HS.out]; exact hown2, hbe2⟩
      case measure => simp [intOf]; omega
    · obtain rfl : k = n := by omega
      rw [Nat.sub_self, Nat.pow_zero, Nat.div_one] at hmine
      go_wp2
      go_ret
      exact ⟨_, rfl, hmine, hbe⟩

theorem strCells_u8s (s : ByteArray) : Lib.strCells s = u8s s.data.toList := rfl
theorem put_one (v : Value) (l : List UInt8) (x : Nat) (w : World) (hm : l.length ≤ 70368744177000) (hv : Rd w v (u8s l)) :
    Calls Try.prog 21 #[v, .int .i64 1, .int .u64 (x : Int)] w fun e w' => ∃ v', e = .returned v' ∧ Mine w' w.heap.size v' (l ++ [UInt8.ofNat x]) ∧ Below w.heap.size w w' :=
  put_any v l 1 x w hm (by omega) (by omega) hv

end
section
/- The pointer to a block. -/
/-- The pointer to block g. -/
def ptr (g : Nat) : Value := .pointer (some ⟨g, 0, none⟩)
end
section
/- Contracts: a reader that the call owns: New, Bad, Rest, fail. -/
open Go.RowKit
set_option maxRecDepth 20000

/-- A reader in block g, its bytes in a block between lo and g. -/
def Rdr (w : World) (lo g : Nat) (s : St) : Prop :=
  lo ≤ g ∧ ∃ A c, Blk w g 75 #[.slice A s.rest.length c, .bool s.bad] ∧ Row w g (.slice A s.rest.length c) (u8s s.rest) ∧ ∀ k, (Value.slice A s.rest.length c).ownBlock = some k → lo ≤ k
theorem Rdr.keep {w w' : World} {lo g : Nat} {s : St} {row : Option Nat} (h : Rdr w lo g s) (hg : w.grownBy w' row) (hr : ∀ k, row = some k → k < lo ∨ g < k) : Rdr w' lo g s := by
  obtain ⟨hlo, A, c, hb, hrow, hk⟩ := h
  have hlt := hb.lt
  refine ⟨hlo, A, c, ?_, ?_, hk⟩
  · exact (hg.block g hlt (fun e => by have := hr g e.symm; omega)).trans hb
  · obtain ⟨A', c', he, hc, hA⟩ := hrow
    injection he with e1 e2 e3
    subst e1 e3
    refine ⟨A, c, by rw [e2], hc, fun hn => ?_⟩
    obtain ⟨b, o, rfl, hbg, hcell⟩ := hA hn
    refine ⟨b, o, rfl, hbg, fun j u hu => ?_⟩
    have hb2 : w'.heap[b]? = w.heap[b]? := hg.block b (by omega) (fun e => by have h1 := hr b e.symm; have h2 := hk b rfl; omega)
    exact (World.cell?_of_block (a := ⟨b, o + j, none⟩) hb2).trans (hcell j u hu)
theorem Rdr.alloc {w : World} {lo g : Nat} {s : St} (h : Rdr w lo g s) (o : Obj) : Rdr (w.alloc o) lo g s := h.keep (World.grownBy_alloc w o none) (by simp)
theorem Rdr.drew {w : World} {lo g : Nat} {s : St} (h : Rdr w lo g s) : Rdr w.drew lo g s := h
theorem Rdr.below {w w' : World} {lo g : Nat} {s : St} (h : Rdr w lo g s) (hb : Below w.heap.size w w') : Rdr w' lo g s :=
  h.keep (row := none) ⟨hb.os, hb.tape, hb.output, hb.size, fun k hk _ => hb.block k hk⟩ (by simp)
theorem Rdr.lt {w : World} {lo g : Nat} {s : St} (h : Rdr w lo g s) : g < w.heap.size := by
  obtain ⟨_, A, c, hb, _⟩ := h; exact hb.lt
theorem Rdr.lo_le {w : World} {lo g : Nat} {s : St} (h : Rdr w lo g s) : lo ≤ g := h.1
theorem Rdr.bad_cell {w : World} {lo g : Nat} {s : St} (h : Rdr w lo g s) : w.cell? ⟨g, 1, none⟩ = some (.bool s.bad) := by
  obtain ⟨_, A, c, hb, _⟩ := h; exact hb.cell 1 _ rfl
theorem Rdr.frozen {w : World} {lo g : Nat} {s : St} (h : Rdr w lo g s) (i : Nat) : w.frozen? ⟨g, i, none⟩ = false := by
  obtain ⟨_, A, c, hb, _⟩ := h; exact hb.frozen i

theorem bad_any {w : World} {lo g : Nat} {s : St} (h : Rdr w lo g s) : Calls Try.prog 34 #[ptr g] w fun e w' => e = .returned (.bool s.bad) ∧ w = w' := by
  have hc := h.bad_cell
  unfold ptr
  go_enter Try.func34, Try.ntmps34
  go_wp2
  go_ret
  exact ⟨rfl, rfl⟩
theorem bad_nil (w : World) : Calls Try.prog 34 #[.pointer none] w fun e w' => e = .returned (.bool true) ∧ w = w' := by
  go_enter Try.func34, Try.ntmps34
  go_wp2
  go_ret
  exact ⟨rfl, rfl⟩
theorem rest_any {w : World} {lo g : Nat} {s : St} (h : Rdr w lo g s) : Calls Try.prog 35 #[ptr g] w fun e w' => e = .returned (.int .i64 (s.rest.length : Int)) ∧ w = w' := by
  obtain ⟨_, A, c, hb, _, _⟩ := h
  have hc := hb.cell 0 _ rfl
  unfold ptr
  go_enter Try.func35, Try.ntmps35
  go_wp2
  go_ret
  exact ⟨rfl, rfl⟩
theorem rest_nil (w : World) : Calls Try.prog 35 #[.pointer none] w fun e w' => e = .returned (.int .i64 0) ∧ w = w' := by
  go_enter Try.func35, Try.ntmps35
  go_wp2
  go_ret
  exact ⟨rfl, rfl⟩
theorem fail_nil (w : World) : Calls Try.prog 30 #[.pointer none] w fun e w' => e = .returned (.tuple #[]) ∧ w = w' := by
  go_enter Try.func30, Try.ntmps30
  go_wp2
  go_end0
  exact ⟨rfl, rfl⟩
theorem fail_any {w : World} {lo g : Nat} {s : St} (h : Rdr w lo g s) : Calls Try.prog 30 #[ptr g] w fun e w' => e = .returned (.tuple #[]) ∧ Rdr w' lo g s.failed ∧ w.grownBy w' (some g) := by
  have hc := h.bad_cell
  have hf := h.frozen 1
  have hr : Rdr (w.setCell ⟨g, 1, none⟩ (.bool true)) lo g s.failed := by
    obtain ⟨hlo, A, c, hb, hrow, hk⟩ := h
    exact ⟨hlo, A, c, hb.set_ 1 (.bool true), hrow.setCell (Nat.le_refl _) _, hk⟩
  have HR := hide hr
  clear hr h
  unfold ptr
  go_enter Try.func30, Try.ntmps30
  go_wp2
  go_end0
  exact ⟨rfl, HR.out, rfl, rfl, rfl, by simp [World.setCell], fun k hk hne => Below.heap_setCell _ _ _ _ (fun e => hne (by subst e; rfl))⟩
theorem new_any (v : Value) (l : List UInt8) (w : World) (hm : l.length ≤ 70368744177664) (hv : Rd w v (u8s l)) :
    Calls Try.prog 25 #[v] w fun e w' => ∃ g, e = .returned (ptr g) ∧ Rdr w' w.heap.size g ⟨l, false⟩ ∧ Below w.heap.size w w' := by
  go_enter Try.func25, Try.ntmps25
  go_wp2_with (go_at_call 27; refine (clone_any v l _ hm hv).mono ?_; rintro e w1 ⟨v1, rfl, hown, hb1⟩; obtain ⟨A, c, rfl⟩ := hown.form; have HO := hide hown; have HB := hide hb1; clear hown hb1)
  go_ret
  refine ⟨w1.heap.size, rfl, ⟨HB.out.size, A, c, ?_, Row.alloc HO.out.rd (Nat.le_refl _) _, fun k hk => (World.ownsRow.lt HO.out k hk).1⟩, HB.out.alloc HB.out.size _⟩
  exact heap_new _ _
end
section
/- Contracts: a reader's Take, Num and Text. -/
open Go.RowKit
set_option maxRecDepth 20000

set_option maxRecDepth 20000 in
/-- 'string(b)'. -/
theorem conv_rd {w : World} {A : Option Addr} {c : Nat} {l : List UInt8} (h : Rd w (.slice A l.length c) (u8s l)) : (convert 31 9 (.slice A l.length c)).run Try.prog w = .ok (.string ⟨l.toArray⟩) w := by
  rcases A with _ | a
  · obtain ⟨A, c', he, hc, hA⟩ := h
    injection he with e1 e2 e3
    subst e1
    rcases Nat.eq_zero_or_pos l.length with h0 | hpos
    · obtain rfl := List.eq_nil_of_length_eq_zero h0
      exact run_convert_bytes_nil w 31 5 Try.underlying31 Try.underlying5 0 c 9 Try.underlying9
    · obtain ⟨_, _, h, _⟩ := hA (by rw [u8s_length]; exact hpos)
      cases h
  · refine run_convert_bytes_back w 31 9 5 a c l Try.underlying31 Try.underlying5 Try.underlying9 fun j hj => ?_
    obtain ⟨A, c', he, hc, hA⟩ := h
    injection he with e1 e2 e3
    subst e1
    obtain ⟨b, o, e, hb, hcell⟩ := hA (by rw [u8s_length]; omega)
    injection e with e
    subst e
    rw [addr_add]
    exact hcell j _ (u8s_get l j hj)
theorem Mine.setCell {w : World} {base : Nat} {v : Value} {l : List UInt8} (h : Mine w base v l) {p : Addr} (hp : p.block < base) (u : Value) : Mine (w.setCell p u) base v l := by
  refine World.ownsRow.kept (row := some p.block) h ⟨rfl, rfl, rfl, by simp [World.setCell], fun k hk hne => Below.heap_setCell _ _ _ _ (fun e => hne (by rw [e]))⟩ ?_
  cases hv : v.ownBlock with
  | none => exact .inl rfl
  | some k => refine .inr fun e => ?_; injection e with e; have := (World.ownsRow.lt h k hv).1; omega

theorem take_fails {w : World} {lo g : Nat} {s : St} {n : Int} (h : Rdr w lo g s) (hcan : s.can n = false) :
    Calls Try.prog 31 #[ptr g, .int .i64 n] w fun e w' => e = .returned (.slice none 0 0) ∧ Rdr w' lo g s.failed ∧ w.grownBy w' (some g) := by
  unfold St.can at hcan
  cases hb : s.bad
  · by_cases h0 : n < 0
    · go_enter Try.func31, Try.ntmps31
      go_wp2_with (first
        | (go_at_call 34; refine (bad_any h).mono ?_; rw [hb]; rintro e w1 ⟨rfl, rfl⟩)
        | (go_at_call 30; refine (fail_any h).mono ?_; rintro e w1 ⟨rfl, hr, hg⟩))
      go_ret
      exact ⟨rfl, hr, hg⟩
    · have h1 : (s.rest.length : Int) < n := by
        rw [hb] at hcan
        simp at hcan
        omega
      go_enter Try.func31, Try.ntmps31
      go_wp2_with (first
        | (go_at_call 34; refine (bad_any h).mono ?_; rw [hb]; rintro e w1 ⟨rfl, rfl⟩)
        | (go_at_call 35; refine (rest_any h).mono ?_; rintro e w1 ⟨rfl, rfl⟩)
        | (go_at_call 30; refine (fail_any h).mono ?_; rintro e w1 ⟨rfl, hr, hg⟩))
      go_ret
      exact ⟨rfl, hr, hg⟩
  · go_enter Try.func31, Try.ntmps31
    go_wp2_with (first
      | (go_at_call 34; refine (bad_any h).mono ?_; rw [hb]; rintro e w1 ⟨rfl, rfl⟩)
      | (go_at_call 30; refine (fail_any h).mono ?_; rintro e w1 ⟨rfl, hr, hg⟩))
    go_ret
    exact ⟨rfl, hr, hg⟩
theorem take_takes {w : World} {lo g k : Nat} {s : St} (h : Rdr w lo g s) (hm : s.rest.length ≤ 70368744177664) (hb : s.bad = false) (hk : k ≤ s.rest.length) :
    Calls Try.prog 31 #[ptr g, .int .i64 (k : Int)] w fun e w' => ∃ v', e = .returned v' ∧ Mine w' w.heap.size v' (s.rest.take k) ∧ Rdr w' lo g ⟨s.rest.drop k, false⟩ ∧ w.grownBy w' (some g) := by
  have hg := h.lt
  obtain ⟨hlo, A, c, hblk, hrow, hown⟩ := id h
  have hc0 := hblk.cell 0 _ rfl
  have hlow := fun W => run_low (P := Try.prog) slice8 size8 A s.rest.length c k (by obtain ⟨_, _, he, hc, _⟩ := hrow; injection he with _ e2 e3; rw [u8s_length] at hc; omega) W
  have hhigh := fun W => run_high (P := Try.prog) slice8 size8 A s.rest.length c k hk W
  have hrd : Rd w (.slice A k c) (u8s (s.rest.take k)) := by rw [u8s_take]; exact (Row.low hrow hk).more (by omega)
  have HR := hide hrow
  have HB := hide hblk
  clear hrow
  unfold ptr
  go_enter Try.func31, Try.ntmps31
  go_wp2_with (first
    | (go_at_call 34; refine (bad_any h).mono ?_; rw [hb]; rintro e w1 ⟨rfl, rfl⟩)
    | (go_at_call 35; refine (rest_any h).mono ?_; rintro e w1 ⟨rfl, rfl⟩)
    | (go_at_call 27; refine (clone_any _ (s.rest.take k) _ (by rw [List.length_take]; omega) hrd).mono ?_; rintro e w1 ⟨v1, rfl, hmine, hb1⟩; have hc1 := (hb1.cell (p := ⟨g, 0, none⟩) hg).trans hc0; have hf1 := (hb1.frozen (p := ⟨g, 0, none⟩) hg).trans (HB.out.frozen 0)))
  go_ret
  refine ⟨v1, rfl, hmine.setCell hg _, ?_, ⟨hb1.os, hb1.tape, hb1.output, ?_, fun j hj hne => ?_⟩⟩
  · have hl : (s.rest.drop k).length = s.rest.length - k := List.length_drop ..
    refine ⟨hlo, hiA A c k, c - k, ?_, ?_, ?_⟩
    · have := (Blk.below HB.out hb1).set_ 0 (.slice (hiA A c k) (s.rest.length - k) (c - k))
      rw [hb] at this
      show Blk _ g _ #[.slice _ (s.rest.drop k).length _, .bool false]
      rw [hl]
      exact this
    · have := Row.setCell (p := ⟨g, 0, none⟩) ((Row.high HR.out hk).below (hb1.mono (Nat.le_of_lt hg))) (Nat.le_refl _) (.slice (hiA A c k) (s.rest.length - k) (c - k))
      rw [← u8s_drop] at this
      show Row _ g (.slice _ (s.rest.drop k).length _) (u8s (s.rest.drop k))
      rw [hl]
      exact this
    · intro j hj
      refine hown j ?_
      unfold hiA at hj
      rcases A with _ | a
      · split at hj <;> cases hj
      · split at hj
        · exact hj
        · rw [← hj]
          show some a.block = some (a.add k).block
          unfold Addr.add
          split <;> rfl
  · have := hb1.size
    simpa [World.setCell] using this
  · exact (Below.heap_setCell _ _ _ _ (fun e => hne (by subst e; rfl))).trans (hb1.block j hj)

theorem take_any {w : World} {lo g : Nat} {s : St} (n : Int) (h : Rdr w lo g s) (hm : s.rest.length ≤ 70368744177664) :
    Calls Try.prog 31 #[ptr g, .int .i64 n] w fun e w' => ∃ v', e = .returned v' ∧ Mine w' w.heap.size v' (s.got n) ∧ Rdr w' lo g (s.take n) ∧ w.grownBy w' (some g) := by
  unfold St.got St.take
  cases hcan : s.can n
  · refine (take_fails h hcan).mono ?_
    rintro e w' ⟨rfl, hr, hg⟩
    exact ⟨_, rfl, own_nil _ _ _, hr, hg⟩
  · unfold St.can at hcan
    simp at hcan
    obtain ⟨⟨hb, h0⟩, h1⟩ := hcan
    obtain ⟨k, rfl⟩ : ∃ k : Nat, n = (k : Int) := ⟨n.toNat, by omega⟩
    exact take_takes h hm hb (by omega)
theorem take_nil (n : Int) (w : World) : Calls Try.prog 31 #[.pointer none, .int .i64 n] w fun e w' => e = .returned (.slice none 0 0) ∧ w = w' := by
  go_enter Try.func31, Try.ntmps31
  go_wp2_with (first
    | (go_at_call 34; refine (bad_nil _).mono ?_; rintro e w1 ⟨rfl, rfl⟩)
    | (go_at_call 30; refine (fail_nil _).mono ?_; rintro e w1 ⟨rfl, rfl⟩))
  go_ret
  exact ⟨rfl, rfl⟩
/-- As a walk takes it: a slice, its length told, and what 'string' makes of it. -/
theorem take_told {w : World} {lo g : Nat} {s : St} (n : Int) (h : Rdr w lo g s) (hm : s.rest.length ≤ 70368744177664) :
    Calls Try.prog 31 #[ptr g, .int .i64 n] w fun e w' => ∃ A c, e = .returned (.slice A (s.got n).length c) ∧ Rd w' (.slice A (s.got n).length c) (u8s (s.got n)) ∧ Rdr w' lo g (s.take n) ∧ w.grownBy w' (some g) ∧
      (convert 31 9 (.slice A (s.got n).length c)).run Try.prog w' = .ok (.string ⟨(s.got n).toArray⟩) w' := by
  refine (take_any n h hm).mono ?_
  rintro e w' ⟨v', rfl, hmine, hr, hg⟩
  obtain ⟨A, c, rfl⟩ := hmine.form
  exact ⟨A, c, rfl, hmine.rd, hr, hg, conv_rd hmine.rd⟩
end
section
/- Contracts: a reader's Num and Text. -/
open Go.RowKit
set_option maxRecDepth 20000

theorem val_take_lt (l : List UInt8) (j : Nat) (hl : l.length ≤ 8) (hj : j < l.length) : val (l.take j) < 72057594037927936 := by
  have h1 := val_lt (l.take j)
  have h2 : 256 ^ (l.take j).length ≤ 256 ^ 7 := Nat.pow_le_pow_right (by omega) (by rw [List.length_take]; omega)
  omega
theorem val_take (l : List UInt8) (j : Nat) (hj : j < l.length) : val (l.take (j + 1)) = val (l.take j) * 256 + l[j].toNat := by
  rw [List.take_succ_eq_append_getElem hj, val_snoc]

theorem or_byte (a : Nat) (b : UInt8) (ha : a < 72057594037927936) : bits .or .u64 ((a : Int) * 256) (IntKind.u64.wrap (b.toNat : Int)) = ((a * 256 + b.toNat : Nat) : Int) := by
  have hb := b.toNat_lt
  have h1 : IntKind.u64.wrap (b.toNat : Int) = (b.toNat : Int) := by rw [IntKind.wrap_u64]; omega
  have h2 : bits .or .u64 ((a : Int) * 256) (b.toNat : Int) = IntKind.u64.wrap (((BitVec.ofInt 64 ((a : Int) * 256) ||| BitVec.ofInt 64 (b.toNat : Int)).toNat : Int)) := rfl
  have h3 : (BitVec.ofInt 64 ((a : Int) * 256)).toNat = a * 256 := by rw [BitVec.toNat_ofInt]; omega
  have h4 : (BitVec.ofInt 64 (b.toNat : Int)).toNat = b.toNat := by rw [BitVec.toNat_ofInt]; omega
  have h5 : a * 256 ||| b.toNat = a * 256 + b.toNat := by
    have := Nat.shiftLeft_add_eq_or_of_lt (i := 8) (b := b.toNat) (by omega) a
    rw [Nat.shiftLeft_eq] at this
    exact this.symm
  rw [h1, h2, BitVec.toNat_or, h3, h4, h5, IntKind.wrap_u64]
  omega

set_option maxHeartbeats 1000000 in
theorem num_walk {w : World} {lo g : Nat} {s : St} (n : Int) (h : Rdr w lo g s) (hm : s.rest.length ≤ 70368744177664) (h1 : 1 ≤ n) (h8 : n ≤ 8) :
    Calls Try.prog 26 #[ptr g, .int .i64 n] w fun e w' => e = .returned (.int .u64 (val (s.got n) : Int)) ∧ Rdr w' lo g (s.take n) ∧ w.grownBy w' (some g) := by
  go_enter Try.func26, Try.ntmps26
  have hgl := s.got_le n h8
  go_wp2_with (go_at_call 31; refine (take_told n h hm).mono ?_; rintro e w1 ⟨A, c, rfl, hrd, hr, hg, _⟩)
  have HR := hide hr
  have HG := hide hg
  generalize hl : s.got n = l at *
  have HL := hide hl
  clear hl
  clear hr hg h
  obtain ⟨A', c', he, hc, hA⟩ := hrd
  injection he with e1 e2 e3
  subst e1 e3
  rw [u8s_length] at hA
  go_loop [5, 20] (fun x i => ∃ j : Nat, j ≤ l.length ∧ i = .int .i64 j ∧ x = .int .u64 (val (l.take j) : Int)) (fun _ i => l.length - (intOf i).toNat)
  case atStart => exact ⟨0, by omega, rfl, rfl⟩
  case round =>
    obtain ⟨j, hj, rfl, rfl⟩ := hrel
    by_cases hlt : j < l.length
    · obtain ⟨b, o, rfl, hb, hcell⟩ := hA (by omega)
      have hcj := hcell j _ (u8s_get l j hlt)
      have hv := val_take_lt l j hgl hlt
      have HV := hide (val_take l j hlt)
      clear hcell
      generalize val (l.take j) = a at *
      have HX := or_byte a l[j] hv
      go_wp2
      go_round
      case rel => exact ⟨j + 1, by omega, by go_num, by rw [HV.out, show ((a * 256 + l[j].toNat : Nat) : Int) = (a : Int) * 256 + (l[j].toNat : Int) by omega]⟩
      case measure => simp [intOf]; omega
    · obtain rfl : j = l.length := by omega
      rw [List.take_length]
      go_wp2
      go_ret
      exact ⟨by rw [HL.out]; rfl, HR.out, HG.out⟩
theorem num_any {w : World} {lo g : Nat} {s : St} (n : Int) (h : Rdr w lo g s) (hm : s.rest.length ≤ 70368744177664) :
    Calls Try.prog 26 #[ptr g, .int .i64 n] w fun e w' => e = .returned (.int .u64 (s.num n : Int)) ∧ Rdr w' lo g (s.numSt n) ∧ w.grownBy w' (some g) := by
  unfold St.num St.numSt
  by_cases hn : 1 ≤ n ∧ n ≤ 8
  · rw [if_pos hn, if_pos hn]
    exact num_walk n h hm hn.1 hn.2
  · rw [if_neg hn, if_neg hn]
    by_cases h1 : n < 1
    · go_enter Try.func26, Try.ntmps26
      go_wp2_with (go_at_call 30; refine (fail_any h).mono ?_; rintro e w1 ⟨rfl, hr, hg⟩)
      go_ret
      exact ⟨rfl, hr, hg⟩
    · have h8 : 8 < n := by omega
      go_enter Try.func26, Try.ntmps26
      go_wp2_with (go_at_call 30; refine (fail_any h).mono ?_; rintro e w1 ⟨rfl, hr, hg⟩)
      go_ret
      exact ⟨rfl, hr, hg⟩
theorem num_nil (w : World) : Calls Try.prog 26 #[.pointer none, .int .i64 1] w fun e w' => e = .returned (.int .u64 0) ∧ w = w' := by
  go_enter Try.func26, Try.ntmps26
  go_wp2_with (go_at_call 31; refine (take_nil _ _).mono ?_; rintro e w1 ⟨rfl, rfl⟩)
  go_loop [5, 20] (fun x i => i = .int .i64 0 ∧ x = .int .u64 0) (fun _ i => 0)
  case atStart => exact ⟨rfl, rfl⟩
  case round =>
    obtain ⟨rfl, rfl⟩ := hrel
    go_wp2
    go_ret
    exact ⟨rfl, rfl⟩
end
section
/- Records as data: what may be one, and its bytes. -/
open Go.RowKit
set_option maxRecDepth 20000

set_option linter.unusedSimpArgs false
set_option linter.unusedVariables false

/-- Is it between the two? -/
def inB (x a b : Int) : Bool := decide (a ≤ x) && decide (x ≤ b)
/-- Is a text empty, or of that size? -/
def halfB (n : Int) (s : ByteArray) : Bool := decide (s.size = 0) || decide ((s.size : Int) = n)
/-- May a record tell of so many pages? -/
def dirtyB (k : Int) (n : Nat) : Bool := decide (n = 0) || (decide (k = 7) && decide (n = 6))
/-- May it be a record? -/
def rightB (k t p s : Int) (b a i : ByteArray) (n : Nat) : Bool := inB k 1 7 && inB t 0 255 && inB p 0 5 && inB s 0 4 && halfB 40 b && halfB 40 a && halfB 256 i && dirtyB k n
theorem right_ways (k t p s : Int) (b a i : ByteArray) (n : Nat) :
    (inB k 1 7 = false ∧ rightB k t p s b a i n = false) ∨ (inB k 1 7 = true ∧ inB t 0 255 = false ∧ rightB k t p s b a i n = false) ∨
    (inB k 1 7 = true ∧ inB t 0 255 = true ∧ inB p 0 5 = false ∧ rightB k t p s b a i n = false) ∨
    (inB k 1 7 = true ∧ inB t 0 255 = true ∧ inB p 0 5 = true ∧ inB s 0 4 = false ∧ rightB k t p s b a i n = false) ∨
    (inB k 1 7 = true ∧ inB t 0 255 = true ∧ inB p 0 5 = true ∧ inB s 0 4 = true ∧ halfB 40 b = false ∧ rightB k t p s b a i n = false) ∨
    (inB k 1 7 = true ∧ inB t 0 255 = true ∧ inB p 0 5 = true ∧ inB s 0 4 = true ∧ halfB 40 b = true ∧ halfB 40 a = false ∧ rightB k t p s b a i n = false) ∨
    (inB k 1 7 = true ∧ inB t 0 255 = true ∧ inB p 0 5 = true ∧ inB s 0 4 = true ∧ halfB 40 b = true ∧ halfB 40 a = true ∧ halfB 256 i = false ∧ rightB k t p s b a i n = false) ∨
    (inB k 1 7 = true ∧ inB t 0 255 = true ∧ inB p 0 5 = true ∧ inB s 0 4 = true ∧ halfB 40 b = true ∧ halfB 40 a = true ∧ halfB 256 i = true ∧ dirtyB k n = rightB k t p s b a i n) := by
  unfold rightB
  cases inB k 1 7 <;> simp
  cases inB t 0 255 <;> simp
  cases inB p 0 5 <;> simp
  cases inB s 0 4 <;> simp
  cases halfB 40 b <;> simp
  cases halfB 40 a <;> simp
  cases halfB 256 i <;> simp

/-- Numbers as cells hold them. -/
def u64s (l : List Nat) : List Value := l.map fun (x : Nat) => .int .u64 (x : Int)
theorem u64s_length (l : List Nat) : (u64s l).length = l.length := List.length_map ..
theorem u64s_get (l : List Nat) (j : Nat) (h : j < l.length) : (u64s l)[j]? = some (.int .u64 (l[j] : Int)) := by simp [u64s, h]
theorem u64s_append (a b : List Nat) : u64s (a ++ b) = u64s a ++ u64s b := List.map_append ..
/-- A record. -/
structure Rc where
  k : Nat
  t : Nat
  p : Nat
  s : Nat
  b : ByteArray
  a : ByteArray
  i : ByteArray
  ds : List Nat
def Rc.right (r : Rc) : Bool := rightB r.k r.t r.p r.s r.b r.a r.i r.ds.length && r.ds.all fun x => decide (x < 18446744073709551616)
/-- As cells, the slice told. -/
def Rc.cells (r : Rc) (D : Value) : Array Value := #[.int .i64 (r.k : Int), .int .i64 (r.t : Int), .int .i64 (r.p : Int), .int .i64 (r.s : Int), .string r.b, .string r.a, .string r.i, D]
/-- Numbers, eight bytes each. -/
def eights (l : List Nat) : List UInt8 := l.flatMap (be 8)
theorem eights_length (l : List Nat) : (eights l).length = 8 * l.length := by
  induction l with
  | nil => rfl
  | cons x l ih => show (be 8 x ++ eights l).length = _; rw [List.length_append, be_length, ih, List.length_cons]; omega
theorem eights_snoc (l : List Nat) (x : Nat) : eights (l ++ [x]) = eights l ++ be 8 x := by simp [eights]
theorem eights_take (l : List Nat) (j : Nat) (h : j < l.length) : eights (l.take (j + 1)) = eights (l.take j) ++ be 8 l[j] := by
  rw [List.take_succ_eq_append_getElem h, eights_snoc]
/-- A text and its length ahead of it. -/
def txt (s : ByteArray) : List UInt8 := UInt8.ofNat s.size :: s.data.toList
theorem txt_length (s : ByteArray) : (txt s).length = s.size + 1 := by simp [txt]
/-- What stands in a frame behind its length. -/
def Rc.said (r : Rc) : List UInt8 := [UInt8.ofNat r.k, UInt8.ofNat r.t, UInt8.ofNat r.p, UInt8.ofNat r.s] ++ txt r.b ++ txt r.a ++ be 2 r.i.size ++ r.i.data.toList ++ [UInt8.ofNat r.ds.length] ++ eights r.ds
def Rc.frame (r : Rc) : List UInt8 := be 2 r.said.length ++ r.said
theorem size_data (s : ByteArray) : s.data.toList.length = s.size := Array.length_toList
theorem Rc.said_length (r : Rc) : r.said.length = 9 + r.b.size + r.a.size + r.i.size + 8 * r.ds.length := by
  unfold Rc.said
  simp only [List.length_append, txt_length, be_length, eights_length, size_data, List.length_cons, List.length_nil]
  omega
theorem Rc.frame_length (r : Rc) : r.frame.length = 11 + r.b.size + r.a.size + r.i.size + 8 * r.ds.length := by
  unfold Rc.frame
  rw [List.length_append, be_length, r.said_length]
  omega
/-- What a record that may be has. -/
structure Rc.Ok (r : Rc) : Prop where
  k : 1 ≤ r.k ∧ r.k ≤ 7
  t : r.t ≤ 255
  p : r.p ≤ 5
  s : r.s ≤ 4
  b : r.b.size = 0 ∨ r.b.size = 40
  a : r.a.size = 0 ∨ r.a.size = 40
  i : r.i.size = 0 ∨ r.i.size = 256
  d : r.ds.length = 0 ∨ (r.k = 7 ∧ r.ds.length = 6)
  u : ∀ x ∈ r.ds, x < 18446744073709551616
theorem Rc.right_iff (r : Rc) : r.right = true ↔ r.Ok := by
  unfold Rc.right rightB inB halfB dirtyB
  simp only [Bool.and_eq_true, Bool.or_eq_true, decide_eq_true_eq, List.all_eq_true]
  constructor
  · rintro ⟨⟨⟨⟨⟨⟨⟨⟨h1, h2⟩, h3⟩, h4⟩, h5⟩, h6⟩, h7⟩, h8⟩, h9⟩
    exact ⟨by omega, by omega, by omega, by omega, by omega, by omega, by omega, by omega, h9⟩
  · rintro ⟨h1, h2, h3, h4, h5, h6, h7, h8, h9⟩
    exact ⟨⟨⟨⟨⟨⟨⟨⟨by omega, by omega⟩, by omega⟩, by omega⟩, by omega⟩, by omega⟩, by omega⟩, by omega⟩, h9⟩
theorem Rc.Ok.rightB {r : Rc} (h : r.Ok) : rightB r.k r.t r.p r.s r.b r.a r.i r.ds.length = true := by
  have := (Rc.right_iff r).2 h
  unfold Rc.right at this
  rw [Bool.and_eq_true] at this
  exact this.1
theorem Rc.Ok.most {r : Rc} (h : r.Ok) : r.frame.length ≤ 395 := by
  obtain ⟨_, _, _, _, h5, h6, h7, h8, _⟩ := h
  rw [r.frame_length]
  omega
end
section
/- Arguments that came in: a record; a seed of a record; a slice of seeds. -/
open Go.ChangeShapes Go.WideShapes Go.ChangeAt Go.RowKit Go.Deep Go.Joins
set_option maxRecDepth 20000

set_option linter.unusedSimpArgs false
set_option linter.unusedVariables false

/-- A seed, as a law is handed it. -/
structure SeedD where
  k : Int
  t : Int
  p : Int
  s : Int
  b : UInt8
  a : UInt8
  i : UInt8
  dv : Value
  ds : List Nat
instance : Inhabited SeedD := ⟨⟨0, 0, 0, 0, 0, 0, 0, .slice none 0 0, []⟩⟩
/-- Its cells. -/
def SeedD.cells (x : SeedD) : List Value := [.int .i64 x.k, .int .i64 x.t, .int .i64 x.p, .int .i64 x.s, .int .u8 (x.b.toNat : Int), .int .u8 (x.a.toNat : Int), .int .u8 (x.i.toNat : Int), x.dv]
/-- What holds of it. -/
structure SeedD.Fit (w : World) (B : Nat) (x : SeedD) : Prop where
  row : Row w B x.dv (u64s x.ds)
  u : ∀ y ∈ x.ds, y < 18446744073709551616
  k : -9223372036854775808 ≤ x.k ∧ x.k < 9223372036854775808
  t : -9223372036854775808 ≤ x.t ∧ x.t < 9223372036854775808
  p : -9223372036854775808 ≤ x.p ∧ x.p < 9223372036854775808
  s : -9223372036854775808 ≤ x.s ∧ x.s < 9223372036854775808
theorem SeedD.Fit.below {w w' : World} {B : Nat} {x : SeedD} (h : x.Fit w B) (hb : Below B w w') : x.Fit w' B := ⟨h.row.below hb, h.u, h.k, h.t, h.p, h.s⟩
theorem SeedD.Fit.more {w : World} {B B' : Nat} {x : SeedD} (h : x.Fit w B) (hb : B ≤ B') : x.Fit w B' := ⟨h.row.more hb, h.u, h.k, h.t, h.p, h.s⟩
/-- v is a slice of the seeds cs; all lies below block B. -/
def SeedRow (w : World) (B : Nat) (v : Value) (cs : List SeedD) : Prop :=
  ∃ A c, v = .slice A cs.length c ∧ (0 < cs.length → ∃ b o, A = some ⟨b, o, none⟩ ∧ b < B ∧ ∀ j x, cs[j]? = some x → ∀ i u, x.cells[i]? = some u → w.cell? ⟨b, o + j * 8 + i, none⟩ = some u) ∧ ∀ x ∈ cs, x.Fit w B
theorem SeedRow.below {w w' : World} {B : Nat} {v : Value} {cs : List SeedD} (h : SeedRow w B v cs) (hb : Below B w w') : SeedRow w' B v cs := by
  obtain ⟨A, c, rfl, h1, h2⟩ := h
  refine ⟨A, c, rfl, fun hn => ?_, fun x hx => (h2 x hx).below hb⟩
  obtain ⟨b, o, rfl, hbB, hc⟩ := h1 hn
  exact ⟨b, o, rfl, hbB, fun j x hj i u hu => (hb.cell (p := ⟨b, o + j * 8 + i, none⟩) hbB).trans (hc j x hj i u hu)⟩

theorem spot_none {w : World} {a : Addr} {v : Value} (h : w.cell? a = some v) : a.spot = none := by
  unfold World.cell? at h
  cases hs : a.spot with
  | none => rfl
  | some k =>
    rw [hs] at h
    revert h
    split <;> simp
theorem wf_i64 {n : Int} (h : (Lit.int .i64 n).wf = true) : -9223372036854775808 ≤ n ∧ n < 9223372036854775808 := by
  simp only [Lit.wf, Bool.and_eq_true, decide_eq_true_eq] at h
  have h1 : IntKind.i64.min = -9223372036854775808 := rfl
  have h2 : IntKind.i64.max = 9223372036854775807 := rfl
  rw [h1, h2] at h
  omega
theorem wf_u64 {n : Int} (h : (Lit.int .u64 n).wf = true) : ∃ m : Nat, n = (m : Int) ∧ m < 18446744073709551616 := by
  simp only [Lit.wf, Bool.and_eq_true, decide_eq_true_eq] at h
  have h1 : IntKind.u64.min = 0 := rfl
  have h2 : IntKind.u64.max = 18446744073709551615 := rfl
  rw [h1, h2] at h
  exact ⟨n.toNat, by omega, by omega⟩
theorem byte_of {n : Int} (h : (Lit.int .u8 n).wf = true) : ∃ x : UInt8, n = (x.toNat : Int) := by
  simp only [Lit.wf, Bool.and_eq_true, decide_eq_true_eq] at h
  have h1 : IntKind.u8.min = 0 := rfl
  have h2 : IntKind.u8.max = 255 := rfl
  rw [h1, h2] at h
  refine ⟨UInt8.ofNat n.toNat, ?_⟩
  rw [UInt8.toNat_ofNat']
  omega

section
variable {w : World} {B : Nat} {H : Type} {enc : TypeId × Value → H} {P : Program} {base b0 : Nat} {spare : Nat → Bool} {held : Bool} {r : Reach}
/-- The cells of a slice of numbers that came in. -/
theorem open_u64_cells {fuel : Nat} {t e : TypeId} {cs : List Value} {d : DataW H} {ps : List MemPlace}
    (ht : P.underlying t = some (.slice e)) (he : P.underlying e = some (.int .u64)) (hc : P.cellsOf e = 1)
    (hf' : DataW.trod enc P w base spare held fuel t cs = some (d, ps)) (hlt : ∀ x ∈ ps, x.block < B) :
    ∃ (v : Value) (l : List Nat), cs = [v] ∧ Row w B v (u64s l) ∧ ∀ x ∈ l, x < 18446744073709551616 := by
  rcases open_ints ht he hc hf' with ⟨h0, _⟩ | ⟨a, len, cap, zs, h0, _, hlc, hcm, hzl, hx, hcell, hwf⟩
  · exact ⟨_, [], h0, Row.nil_ _ _, by simp⟩
  · subst h0
    have hle : len ≤ zs.length := by rw [hzl]; split <;> omega
    have hin : ∀ j (h : j < zs.length), ((zs[j].toNat : Nat) : Int) = zs[j] ∧ zs[j].toNat < 18446744073709551616 := by
      intro j h
      obtain ⟨m, hm, hlt⟩ := wf_u64 (hwf _ (List.getElem_mem h))
      rw [hm]
      omega
    refine ⟨_, (zs.take len).map fun z => z.toNat, rfl, ?_, ?_⟩
    rotate_left
    · intro x hx
      rw [List.mem_map] at hx
      obtain ⟨z, hz, rfl⟩ := hx
      obtain ⟨j, hj⟩ := List.mem_iff_getElem.1 (List.mem_of_mem_take hz)
      obtain ⟨hj, rfl⟩ := hj
      exact (hin j hj).2
    have hlen : (u64s ((zs.take len).map fun z => z.toNat)).length = len := by simp [u64s]; omega
    refine ⟨some a, cap, by rw [hlen], by omega, fun hn => ?_⟩
    rw [hlen] at hn
    have h0 := hcell 0 (by omega)
    have hspot : a.spot = none := by
      have e : a.add 0 = a := by simp [Addr.add]
      rw [e] at h0
      exact spot_none h0
    obtain ⟨b, o, sp⟩ := a
    obtain rfl : sp = none := hspot
    have hadd : ∀ j, (⟨b, o, none⟩ : Addr).add j = ⟨b, o + j, none⟩ := by
      intro j
      simp [Addr.add]
      try omega
    refine ⟨b, o, rfl, ?_, fun j u hu => ?_⟩
    · have : (MemPlace.row ⟨b, o, none⟩ zs.length) = ps := (congrArg Prod.snd hx).symm
      have hmem : MemPlace.cell b (o + 0) ∈ ps := by
        rw [← this]
        simp [MemPlace.row]
        omega
      exact hlt _ hmem
    · have hj : j < len := by
        have := (List.getElem?_eq_some_iff.1 hu).1
        omega
      have hjz : j < zs.length := by omega
      have hj2 : j < ((zs.take len).map fun z => z.toNat).length := by simp; omega
      rw [u64s_get _ j hj2] at hu
      injection hu with hu
      subst hu
      rw [← hadd, hcell j hjz]
      simp only [List.getElem_map, List.getElem_take, (hin j hjz).1]
      simp [List.getD, hjz]
theorem array8 {cs : Array Value} (h : cs.size = 8) : ∃ c0 c1 c2 c3 c4 c5 c6 c7, cs = #[c0, c1, c2, c3, c4, c5, c6, c7] := by
  obtain ⟨l⟩ := cs
  match l, h with
  | [c0, c1, c2, c3, c4, c5, c6, c7], _ => exact ⟨c0, c1, c2, c3, c4, c5, c6, c7, rfl⟩
/-- The fields of a struct of eight cells. -/
theorem open_fields8 {t : TypeId} {f0 f1 f2 f3 f4 f5 f6 f7 : Field} {fuel : Nat} {c0 c1 c2 c3 c4 c5 c6 c7 : Value} {d : DataW H} {ps : List MemPlace} (hs : P.underlying t = some (.struct #[f0, f1, f2, f3, f4, f5, f6, f7])) (hone : oneCellFields P #[f0, f1, f2, f3, f4, f5, f6, f7] = true)
    (hf : DataW.trod enc P w base spare held fuel t [c0, c1, c2, c3, c4, c5, c6, c7] = some (d, ps)) : ∃ n y0 y1 y2 y3 y4 y5 y6 y7, (∀ x, x ∈ y7.2 → x ∈ ps) ∧
      DataW.trod enc P w base spare held n f0.type [c0] = some y0 ∧ DataW.trod enc P w base spare held n f1.type [c1] = some y1 ∧ DataW.trod enc P w base spare held n f2.type [c2] = some y2 ∧ DataW.trod enc P w base spare held n f3.type [c3] = some y3 ∧
      DataW.trod enc P w base spare held n f4.type [c4] = some y4 ∧ DataW.trod enc P w base spare held n f5.type [c5] = some y5 ∧ DataW.trod enc P w base spare held n f6.type [c6] = some y6 ∧ DataW.trod enc P w base spare held n f7.type [c7] = some y7 := by
  obtain ⟨xs, n', _, hy, hlen, hxl, hfl⟩ := DataW.trod_struct hs hf
  simp only [Prod.mk.injEq] at hy
  match xs, hxl with
  | [y0, y1, y2, y3, y4, y5, y6, y7], _ =>
    obtain ⟨o0, k0⟩ := Go.Deep.hone_of hone 0 f0 rfl
    obtain ⟨o1, k1⟩ := Go.Deep.hone_of hone 1 f1 rfl
    obtain ⟨o2, k2⟩ := Go.Deep.hone_of hone 2 f2 rfl
    obtain ⟨o3, k3⟩ := Go.Deep.hone_of hone 3 f3 rfl
    obtain ⟨o4, k4⟩ := Go.Deep.hone_of hone 4 f4 rfl
    obtain ⟨o5, k5⟩ := Go.Deep.hone_of hone 5 f5 rfl
    obtain ⟨o6, k6⟩ := Go.Deep.hone_of hone 6 f6 rfl
    obtain ⟨o7, k7⟩ := Go.Deep.hone_of hone 7 f7 rfl
    exact ⟨n', y0, y1, y2, y3, y4, y5, y6, y7, fun x hx => by rw [hy.2]; simp [hx], by simpa [o0, k0] using hfl 0 f0 rfl, by simpa [o1, k1] using hfl 1 f1 rfl, by simpa [o2, k2] using hfl 2 f2 rfl, by simpa [o3, k3] using hfl 3 f3 rfl,
      by simpa [o4, k4] using hfl 4 f4 rfl, by simpa [o5, k5] using hfl 5 f5 rfl, by simpa [o6, k6] using hfl 6 f6 rfl, by simpa [o7, k7] using hfl 7 f7 rfl⟩
/-- A record that came in. -/
theorem open_rec {t eb : TypeId} {f0 f1 f2 f3 f4 f5 f6 f7 : Field} {v : Value} {d : DataW H} {ps : List MemPlace} (hs : P.underlying t = some (.struct #[f0, f1, f2, f3, f4, f5, f6, f7])) (hone : oneCellFields P #[f0, f1, f2, f3, f4, f5, f6, f7] = true) (hC : P.cellsOf t = 8)
    (u0 : P.underlying f0.type = some (.int .i64)) (u1 : P.underlying f1.type = some (.int .i64)) (u2 : P.underlying f2.type = some (.int .i64)) (u3 : P.underlying f3.type = some (.int .i64)) (u4 : P.underlying f4.type = some .string) (u5 : P.underlying f5.type = some .string) (u6 : P.underlying f6.type = some .string)
    (u7 : P.underlying f7.type = some (.slice eb)) (ub : P.underlying eb = some (.int .u64)) (cb : P.cellsOf eb = 1)
    (hval : Value.okWide P w r b0 t v) (hd : DataW.Trod enc P w base spare held t v d ps) (hlt : ∀ x ∈ ps, x.block < B) :
    ∃ (k t p s : Int) (b a i : ByteArray) (A : Option Addr) (n c : Nat), v = .agg #[.int .i64 k, .int .i64 t, .int .i64 p, .int .i64 s, .string b, .string a, .string i, .slice A n c] := by
  obtain ⟨cs, rfl, hsz⟩ := okWide_struct hs hval
  obtain ⟨c0, c1, c2, c3, c4, c5, c6, c7, rfl⟩ := array8 (hsz.trans hC)
  obtain ⟨fuel, hf⟩ := hd
  have hf' : DataW.trod enc P w base spare held fuel t [c0, c1, c2, c3, c4, c5, c6, c7] = some (d, ps) := by simpa [Value.cells] using hf
  obtain ⟨n, y0, y1, y2, y3, y4, y5, y6, y7, hps, g0, g1, g2, g3, g4, g5, g6, g7⟩ := open_fields8 hs hone hf'
  obtain ⟨z0, e0, _, _⟩ := DataW.trod_int u0 g0
  obtain ⟨z1, e1, _, _⟩ := DataW.trod_int u1 g1
  obtain ⟨z2, e2, _, _⟩ := DataW.trod_int u2 g2
  obtain ⟨z3, e3, _, _⟩ := DataW.trod_int u3 g3
  obtain ⟨z4, e4, _, _⟩ := DataW.trod_string u4 g4
  obtain ⟨z5, e5, _, _⟩ := DataW.trod_string u5 g5
  obtain ⟨z6, e6, _, _⟩ := DataW.trod_string u6 g6
  obtain ⟨v7, l7, e7, ⟨A, c, e8, _, _⟩, _⟩ := open_u64_cells (B := B) u7 ub cb g7 (fun x hx => hlt x (hps x hx))
  injection e0 with e0
  injection e1 with e1
  injection e2 with e2
  injection e3 with e3
  injection e4 with e4
  injection e5 with e5
  injection e6 with e6
  injection e7 with e7
  subst e0 e1 e2 e3 e4 e5 e6 e7 e8
  exact ⟨z0, z1, z2, z3, z4, z5, z6, A, _, c, rfl⟩
theorem seed_fields {eb : TypeId} {f0 f1 f2 f3 f4 f5 f6 f7 : Field} {n : Nat} {c0 c1 c2 c3 c4 c5 c6 c7 : Value} {y0 y1 y2 y3 y4 y5 y6 y7 : DataW H × List MemPlace}
    (u0 : P.underlying f0.type = some (.int .i64)) (u1 : P.underlying f1.type = some (.int .i64)) (u2 : P.underlying f2.type = some (.int .i64)) (u3 : P.underlying f3.type = some (.int .i64)) (u4 : P.underlying f4.type = some (.int .u8)) (u5 : P.underlying f5.type = some (.int .u8)) (u6 : P.underlying f6.type = some (.int .u8))
    (u7 : P.underlying f7.type = some (.slice eb)) (ub : P.underlying eb = some (.int .u64)) (cb : P.cellsOf eb = 1) (hlt : ∀ x ∈ y7.2, x.block < B)
    (g0 : DataW.trod enc P w base spare held n f0.type [c0] = some y0) (g1 : DataW.trod enc P w base spare held n f1.type [c1] = some y1) (g2 : DataW.trod enc P w base spare held n f2.type [c2] = some y2) (g3 : DataW.trod enc P w base spare held n f3.type [c3] = some y3)
    (g4 : DataW.trod enc P w base spare held n f4.type [c4] = some y4) (g5 : DataW.trod enc P w base spare held n f5.type [c5] = some y5) (g6 : DataW.trod enc P w base spare held n f6.type [c6] = some y6) (g7 : DataW.trod enc P w base spare held n f7.type [c7] = some y7) :
    ∃ x : SeedD, x.cells = [c0, c1, c2, c3, c4, c5, c6, c7] ∧ x.Fit w B := by
  obtain ⟨z0, e0, _, w0⟩ := DataW.trod_int u0 g0
  obtain ⟨z1, e1, _, w1⟩ := DataW.trod_int u1 g1
  obtain ⟨z2, e2, _, w2⟩ := DataW.trod_int u2 g2
  obtain ⟨z3, e3, _, w3⟩ := DataW.trod_int u3 g3
  obtain ⟨z4, e4, _, w4⟩ := DataW.trod_int u4 g4
  obtain ⟨z5, e5, _, w5⟩ := DataW.trod_int u5 g5
  obtain ⟨z6, e6, _, w6⟩ := DataW.trod_int u6 g6
  obtain ⟨v7, l7, e7, hr7, hu7⟩ := open_u64_cells (B := B) u7 ub cb g7 hlt
  injection e0 with e0
  injection e1 with e1
  injection e2 with e2
  injection e3 with e3
  injection e4 with e4
  injection e5 with e5
  injection e6 with e6
  injection e7 with e7
  subst e0 e1 e2 e3 e4 e5 e6 e7
  obtain ⟨b, rfl⟩ := byte_of w4
  obtain ⟨a, rfl⟩ := byte_of w5
  obtain ⟨i, rfl⟩ := byte_of w6
  exact ⟨⟨z0, z1, z2, z3, b, a, i, c7, l7⟩, rfl, hr7, hu7, wf_i64 w0, wf_i64 w1, wf_i64 w2, wf_i64 w3⟩
/-- A seed that came in. -/
theorem open_seed {t eb : TypeId} {f0 f1 f2 f3 f4 f5 f6 f7 : Field} {v : Value} {d : DataW H} {ps : List MemPlace} (hs : P.underlying t = some (.struct #[f0, f1, f2, f3, f4, f5, f6, f7])) (hone : oneCellFields P #[f0, f1, f2, f3, f4, f5, f6, f7] = true) (hC : P.cellsOf t = 8)
    (u0 : P.underlying f0.type = some (.int .i64)) (u1 : P.underlying f1.type = some (.int .i64)) (u2 : P.underlying f2.type = some (.int .i64)) (u3 : P.underlying f3.type = some (.int .i64)) (u4 : P.underlying f4.type = some (.int .u8)) (u5 : P.underlying f5.type = some (.int .u8)) (u6 : P.underlying f6.type = some (.int .u8))
    (u7 : P.underlying f7.type = some (.slice eb)) (ub : P.underlying eb = some (.int .u64)) (cb : P.cellsOf eb = 1)
    (hval : Value.okWide P w r b0 t v) (hd : DataW.Trod enc P w base spare held t v d ps) (hlt : ∀ x ∈ ps, x.block < B) :
    ∃ x : SeedD, v = .agg x.cells.toArray ∧ x.Fit w B := by
  obtain ⟨cs, rfl, hsz⟩ := okWide_struct hs hval
  obtain ⟨c0, c1, c2, c3, c4, c5, c6, c7, rfl⟩ := array8 (hsz.trans hC)
  obtain ⟨fuel, hf⟩ := hd
  have hf' : DataW.trod enc P w base spare held fuel t [c0, c1, c2, c3, c4, c5, c6, c7] = some (d, ps) := by simpa [Value.cells] using hf
  obtain ⟨n, y0, y1, y2, y3, y4, y5, y6, y7, hps, g0, g1, g2, g3, g4, g5, g6, g7⟩ := open_fields8 hs hone hf'
  obtain ⟨x, hx, hfit⟩ := seed_fields u0 u1 u2 u3 u4 u5 u6 u7 ub cb (fun x hx => hlt x (hps x hx)) g0 g1 g2 g3 g4 g5 g6 g7
  exact ⟨x, by rw [hx], hfit⟩
/-- A slice of seeds that came in. -/
theorem open_seeds {t e eb : TypeId} {f0 f1 f2 f3 f4 f5 f6 f7 : Field} {v : Value} {d : DataW H} {ps : List MemPlace} (ht : P.underlying t = some (.slice e)) (he : P.underlying e = some (.struct #[f0, f1, f2, f3, f4, f5, f6, f7])) (hone : oneCellFields P #[f0, f1, f2, f3, f4, f5, f6, f7] = true) (hC : P.cellsOf e = 8)
    (u0 : P.underlying f0.type = some (.int .i64)) (u1 : P.underlying f1.type = some (.int .i64)) (u2 : P.underlying f2.type = some (.int .i64)) (u3 : P.underlying f3.type = some (.int .i64)) (u4 : P.underlying f4.type = some (.int .u8)) (u5 : P.underlying f5.type = some (.int .u8)) (u6 : P.underlying f6.type = some (.int .u8))
    (u7 : P.underlying f7.type = some (.slice eb)) (ub : P.underlying eb = some (.int .u64)) (cb : P.cellsOf eb = 1)
    (hval : Value.okWide P w r b0 t v) (hd : DataW.Trod enc P w base spare held t v d ps) (hlt : ∀ x ∈ ps, x.block < B) : ∃ cs : List SeedD, SeedRow w B v cs := by
  obtain ⟨a0, len, cap, rfl⟩ := okWide_slice ht hval
  obtain ⟨fuel, hf⟩ := hd
  have hf' : DataW.trod enc P w base spare held fuel t [.slice a0 len cap] = some (d, ps) := by simpa [Value.cells] using hf
  rcases Go.Deep.open_slice ht hf' with ⟨h0, _⟩ | ⟨a, len', cap', m, n, D, Pl, h0, _, hlc, hcm, hm, hx, hi⟩
  · injection h0 with h0
    rw [h0]
    exact ⟨[], none, 0, rfl, fun h => absurd h (by simp), fun x hx => by cases hx⟩
  · injection h0 with h0
    injection h0 with e1 e2 e3
    subst e1 e2 e3
    have hlm : len ≤ m := by rw [hm]; split <;> omega
    have hps : ps = MemPlace.row a (m * P.cellsOf e) ++ (List.range m).flatMap Pl := congrArg Prod.snd hx
    have each : ∀ i, i < len → ∃ x : SeedD, (∀ k u, x.cells[k]? = some u → w.cell? (a.add (i * 8 + k)) = some u) ∧ x.Fit w B := by
      intro i hil
      obtain ⟨cs', hc, ht'⟩ := hi i (by omega)
      rw [hC] at hc
      obtain ⟨_, hcl, hat⟩ := World.cells?_some hc
      match cs', hcl with
      | [c0, c1, c2, c3, c4, c5, c6, c7], _ =>
        obtain ⟨n, y0, y1, y2, y3, y4, y5, y6, y7, hps2, g0, g1, g2, g3, g4, g5, g6, g7⟩ := open_fields8 he hone ht'
        obtain ⟨x, hx, hfit⟩ := seed_fields (B := B) u0 u1 u2 u3 u4 u5 u6 u7 ub cb (fun x hx => hlt x (by
          rw [hps]
          exact List.mem_append_right _ (List.mem_flatMap.2 ⟨i, List.mem_range.2 (by omega), hps2 x hx⟩))) g0 g1 g2 g3 g4 g5 g6 g7
        refine ⟨x, fun k u hu => ?_, hfit⟩
        rw [hx] at hu
        have hk : k < 8 := by have := (List.getElem?_eq_some_iff.1 hu).1; simpa using this
        have := hat k hk
        rw [Go.Deep.add_add] at this
        rw [this]
        exact hu
    obtain ⟨q, hq⟩ := Go.Deep.choose_lt each
    have hl : ((List.range len).map q).length = len := by simp
    have hget : ∀ j x, ((List.range len).map q)[j]? = some x → j < len ∧ q j = x := by
      intro j x hj
      have hjl : j < len := by have := (List.getElem?_eq_some_iff.1 hj).1; rwa [hl] at this
      refine ⟨hjl, ?_⟩
      simp only [List.getElem?_map] at hj
      rw [List.getElem?_range hjl] at hj
      simpa using hj
    refine ⟨(List.range len).map q, some a, cap, by rw [hl], fun hn => ?_, fun x hx => ?_⟩
    · rw [hl] at hn
      have hspot : (a.add (0 * 8 + 0)).spot = none := spot_none ((hq 0 hn).1 0 _ rfl)
      have ea : a.add (0 * 8 + 0) = a := by simp [Addr.add]
      rw [ea] at hspot
      obtain ⟨b, o, sp⟩ := a
      obtain rfl : sp = none := hspot
      have hadd : ∀ j, (⟨b, o, none⟩ : Addr).add j = ⟨b, o + j, none⟩ := by
        intro j
        simp [Addr.add]
        try omega
      refine ⟨b, o, rfl, ?_, fun j x hj i u hu => ?_⟩
      · have hmem : MemPlace.cell b (o + 0) ∈ ps := by
          rw [hps]
          refine List.mem_append_left _ ?_
          rw [hC]
          simp [MemPlace.row]
          omega
        exact hlt _ hmem
      · obtain ⟨hjl, rfl⟩ := hget j x hj
        have := (hq j hjl).1 i u hu
        rw [hadd, ← Nat.add_assoc] at this
        exact this
    · obtain ⟨j, hj⟩ := List.mem_iff_getElem?.1 hx
      obtain ⟨hjl, rfl⟩ := hget j x hj
      exact (hq j hjl).2
end
end
section
/- Contracts of package record: within, noneOr, rightDirty, Right. -/
open Go.RowKit
set_option maxRecDepth 20000

set_option linter.unusedSimpArgs false
set_option linter.unusedVariables false

theorem empty_of {s : ByteArray} (h : s.size = 0) : s = ⟨#[]⟩ := by
  apply ByteArray.ext
  exact Array.eq_empty_of_size_eq_zero h
theorem toList_ne {s : ByteArray} (h : s ≠ ⟨#[]⟩) : ¬ s.toList = [] := by
  intro e
  rw [ByteArray.toList_eq] at e
  obtain ⟨⟨l⟩⟩ := s
  exact h (by simp at e; rw [e])
theorem isEmpty_ne {s : ByteArray} (h : s ≠ ⟨#[]⟩) : s.toList.isEmpty = false := by
  cases e : s.toList with
  | nil => exact absurd e (toList_ne h)
  | cons a b => rfl
theorem ne_of_size {s : ByteArray} (h : ¬ s.size = 0) : s ≠ ⟨#[]⟩ := fun e => h (by rw [e]; rfl)
end
section
/- Contracts of package record: said, Encode. -/
open Go.RowKit
set_option maxRecDepth 20000

set_option linter.unusedSimpArgs false
set_option linter.unusedVariables false

theorem Blk.grown {w w' : World} {k : Nat} {t : TypeId} {cs : Array Value} {row : Option Nat} (h : Blk w k t cs) (hg : w.grownBy w' row) (hne : row ≠ some k) : Blk w' k t cs :=
  (hg.block k h.lt (fun e => hne e.symm)).trans h
section
variable {w0 w w' : World} {r : Rc} {A : Option Addr} {c : Nat}
end
/-- A number of one byte behind bytes, as a call has it. -/
theorem put_1 (v : Value) (l : List UInt8) (x : Nat) (w : World) (hm : l.length ≤ 1000) (hv : Rd w v (u8s l)) :
    Calls Try.prog 21 #[v, .int .i64 1, .int .u64 (x : Int)] w fun e w' => ∃ v', e = .returned v' ∧ Mine w' w.heap.size v' (l ++ [UInt8.ofNat x]) ∧ Below w.heap.size w w' := put_one v l x w (by omega) hv
theorem put_n (x : Nat) (w : World) :
    Calls Try.prog 21 #[.slice none 0 0, .int .i64 1, .int .u64 (x : Int)] w fun e w' => ∃ v', e = .returned v' ∧ Mine w' w.heap.size v' [UInt8.ofNat x] ∧ Below w.heap.size w w' := put_one (.slice none 0 0) [] x w (by simp) (Rd.nil_ _ _ _)
theorem put_2 (v : Value) (l : List UInt8) (x : Nat) (w : World) (hm : l.length ≤ 1000) (hv : Rd w v (u8s l)) :
    Calls Try.prog 21 #[v, .int .i64 2, .int .u64 (x : Int)] w fun e w' => ∃ v', e = .returned v' ∧ Mine w' w.heap.size v' (l ++ be 2 x) ∧ Below w.heap.size w w' := put_any v l 2 x w (by omega) (by omega) (by omega) hv
theorem put_n2 (x : Nat) (w : World) :
    Calls Try.prog 21 #[.slice none 0 0, .int .i64 2, .int .u64 (x : Int)] w fun e w' => ∃ v', e = .returned v' ∧ Mine w' w.heap.size v' (be 2 x) ∧ Below w.heap.size w w' := put_any (.slice none 0 0) [] 2 x w (by simp) (by omega) (by omega) (Rd.nil_ _ _ _)
theorem put_8 (v : Value) (l : List UInt8) (x : Nat) (w : World) (hm : l.length ≤ 1000) (hv : Rd w v (u8s l)) :
    Calls Try.prog 21 #[v, .int .i64 8, .int .u64 (x : Int)] w fun e w' => ∃ v', e = .returned v' ∧ Mine w' w.heap.size v' (l ++ be 8 x) ∧ Below w.heap.size w w' := put_any v l 8 x w (by omega) (by omega) (by omega) hv
theorem put_n8 (x : Nat) (w : World) :
    Calls Try.prog 21 #[.slice none 0 0, .int .i64 8, .int .u64 (x : Int)] w fun e w' => ∃ v', e = .returned v' ∧ Mine w' w.heap.size v' (be 8 x) ∧ Below w.heap.size w w' := put_any (.slice none 0 0) [] 8 x w (by simp) (by omega) (by omega) (Rd.nil_ _ _ _)
theorem Mine.more {w : World} {b b' : Nat} {v : Value} {l : List UInt8} (h : Mine w b' v l) (hb : b ≤ b') : Mine w b v l := by
  obtain ⟨h1, h2⟩ := h
  refine ⟨h1, ?_⟩
  rcases h2 with h2 | ⟨g, cap, cur, e, hg, r⟩
  · exact .inl h2
  · exact .inr ⟨g, cap, cur, e, Nat.le_trans hb hg, r⟩
/-- A string behind a row of one's own. -/
theorem mine_str {w' : World} {base : Nat} {v' : Value} {l : List UInt8} {s : ByteArray} (h : w'.ownsRow base 5 1 v' (l.length + s.size) (u8s l ++ Lib.strCells s)) : Mine w' base v' (l ++ s.data.toList) := by
  unfold Mine
  rw [u8s_append, List.length_append, size_data]
  exact h
theorem mine_rd {w' : World} {base : Nat} {v' : Value} {l m : List UInt8} (h : w'.ownsRow base 5 1 v' (l.length + (u8s m).length) (u8s l ++ u8s m)) : Mine w' base v' (l ++ m) := by
  unfold Mine
  rw [u8s_append, List.length_append, ← u8s_length m]
  exact h
theorem Mine.low {w : World} {base : Nat} {v : Value} {l : List UInt8} (h : Mine w base v l) : ∀ k, v.ownBlock = some k → base ≤ k := fun k hk => (World.ownsRow.lt h k hk).1

/-- What stands ahead of the dirty pages. -/
def Rc.hd4 (r : Rc) : List UInt8 := (([UInt8.ofNat r.k] ++ [UInt8.ofNat r.t]) ++ [UInt8.ofNat r.p]) ++ [UInt8.ofNat r.s]
def Rc.hd6 (r : Rc) : List UInt8 := (r.hd4 ++ txt r.b) ++ txt r.a
def Rc.hd8 (r : Rc) : List UInt8 := (r.hd6 ++ be 2 r.i.size) ++ r.i.data.toList
def Rc.hd9 (r : Rc) : List UInt8 := r.hd8 ++ [UInt8.ofNat r.ds.length]
theorem Rc.said_eq (r : Rc) : r.said = r.hd9 ++ eights r.ds := by simp [Rc.said, Rc.hd9, Rc.hd8, Rc.hd6, Rc.hd4]
theorem Rc.hd4_length (r : Rc) : r.hd4.length = 4 := rfl
theorem Rc.hd6_length (r : Rc) : r.hd6.length = 6 + r.b.size + r.a.size := by simp [Rc.hd6, Rc.hd4_length, txt_length]; omega
theorem Rc.hd8_length (r : Rc) : r.hd8.length = 8 + r.b.size + r.a.size + r.i.size := by simp [Rc.hd8, Rc.hd6_length, be_length]; omega
theorem Rc.hd9_length (r : Rc) : r.hd9.length = 9 + r.b.size + r.a.size + r.i.size := by simp [Rc.hd9, Rc.hd8_length]; omega
theorem put_i {r : Rc} (v : Value) (w : World) (h : r.Ok) (hv : Rd w v (u8s r.hd6)) :
    Calls Try.prog 21 #[v, .int .i64 2, .int .u64 (r.i.size : Int)] w fun e w' => ∃ v', e = .returned v' ∧ Mine w' w.heap.size v' (r.hd6 ++ be 2 r.i.size) ∧ Below w.heap.size w w' := put_2 v _ _ w (by have := h.b; have := h.a; rw [r.hd6_length]; omega) hv
theorem put_d {r : Rc} (v : Value) (w : World) (h : r.Ok) (hv : Rd w v (u8s r.hd8)) :
    Calls Try.prog 21 #[v, .int .i64 1, .int .u64 (r.ds.length : Int)] w fun e w' => ∃ v', e = .returned v' ∧ Mine w' w.heap.size v' r.hd9 ∧ Below w.heap.size w w' := put_1 v _ _ w (by have := h.b; have := h.a; have := h.i; rw [r.hd8_length]; omega) hv
theorem put_k (r : Rc) (w : World) :
    Calls Try.prog 21 #[.slice none 0 0, .int .i64 1, .int .u64 (r.k : Int)] w fun e w' => ∃ v', e = .returned v' ∧ Mine w' w.heap.size v' [UInt8.ofNat r.k] ∧ Below w.heap.size w w' := put_n r.k w
theorem put_t {r : Rc} (v : Value) (w : World) (hv : Rd w v (u8s [UInt8.ofNat r.k])) :
    Calls Try.prog 21 #[v, .int .i64 1, .int .u64 (r.t : Int)] w fun e w' => ∃ v', e = .returned v' ∧ Mine w' w.heap.size v' ([UInt8.ofNat r.k] ++ [UInt8.ofNat r.t]) ∧ Below w.heap.size w w' := put_1 v _ r.t w (by simp) hv
theorem put_p {r : Rc} (v : Value) (w : World) (hv : Rd w v (u8s ([UInt8.ofNat r.k] ++ [UInt8.ofNat r.t]))) :
    Calls Try.prog 21 #[v, .int .i64 1, .int .u64 (r.p : Int)] w fun e w' => ∃ v', e = .returned v' ∧ Mine w' w.heap.size v' (([UInt8.ofNat r.k] ++ [UInt8.ofNat r.t]) ++ [UInt8.ofNat r.p]) ∧ Below w.heap.size w w' := put_1 v _ r.p w (by simp) hv
theorem put_s {r : Rc} (v : Value) (w : World) (hv : Rd w v (u8s (([UInt8.ofNat r.k] ++ [UInt8.ofNat r.t]) ++ [UInt8.ofNat r.p]))) :
    Calls Try.prog 21 #[v, .int .i64 1, .int .u64 (r.s : Int)] w fun e w' => ∃ v', e = .returned v' ∧ Mine w' w.heap.size v' r.hd4 ∧ Below w.heap.size w w' := put_1 v _ r.s w (by simp) hv

/-- What a record's Encode needs: it may be. -/
theorem Rc.said_lt {r : Rc} (h : r.Ok) : r.said.length ≤ 393 := by
  have := h.b; have := h.a; have := h.i; have := h.d
  rw [r.said_length]
  omega
end
section
/- A law for a region whose order is drawn: the world goes through phases, each told by which operations have come up and by what they yielded; each operation is shown to run from the phase at which it can come. Then, in whatever order they come, the last phase holds behind the region. (So many orders cost as many steps as there are operations.) -/
open Go.RowKit
set_option maxRecDepth 20000

/-- Operation i comes behind operation j. -/
def behind (ops : Array Oper) (i j : Nat) : Bool := ((ops[i]?).map fun o => o.after.any fun e => Region.binds .any e && e.on == j).getD false
/-- No operation writes slot t but such as come behind operation i. -/
def oldB (ops : Array Oper) (i t : Nat) : Bool := (List.range ops.size).all fun j => ((ops[j]?).map fun o => o.dst != some t || behind ops j i).getD true
/-- Each slot is written once, and is there. -/
def onceB (ops : Array Oper) : Bool :=
  (List.range ops.size).all fun i => (List.range ops.size).all fun j => i == j || (match (ops[i]?).bind (·.dst), (ops[j]?).bind (·.dst) with | some d, some d' => d != d' | _, _ => true)
def roomB (ops : Array Oper) (n : Nat) : Bool := ops.toList.all fun o => match o.dst with | some d => decide (d < n) | none => true

section
variable {P : Program} {ops : Array Oper} {Q : Exit → Act → World → Prop}

theorem getD_put (a : Act) (d : Nat) (v : Value) (t : Nat) : (a.put (some d) v).tmps.getD t undef = if t = d ∧ d < a.tmps.size then v else a.tmps.getD t undef := by
  unfold Act.put
  simp only [Array.getD_eq_getD_getElem?]
  rw [Array.getElem?_setIfInBounds]
  by_cases h : d = t
  · subst h
    by_cases h2 : d < a.tmps.size <;> simp [h2]
  · have h' : ¬ t = d := fun e => h e.symm
    simp [h, h']

theorem set_getD (l : Array Bool) (i j : Nat) (h : i < l.size) : (l.setIfInBounds i true).getD j false = if i = j then true else l.getD j false := by
  simp only [Array.getD_eq_getD_getElem?]
  rw [Array.getElem?_setIfInBounds]
  by_cases e : i = j
  · subst e; simp [h]
  · simp [e]

/-- All edges that bind lead back. -/
def lowB (ops : Array Oper) : Bool := (List.range ops.size).all fun i => ((ops[i]?).map fun o => o.after.all fun e => !Region.binds .any e || decide (e.on < i)).getD true
theorem hend_of (h : lowB ops = true) : ∀ listed : Array Bool, listed.size = ops.size → Region.ready .any ops listed = [] → ∀ j, j < ops.size → listed.getD j false = true := by
  intro listed hl hr j
  induction j using Nat.strongRecOn with
  | ind j ih =>
    intro hj
    have ho : ops[j]? = some ops[j] := Array.getElem?_eq_getElem hj
    unfold lowB at h
    rw [List.all_eq_true] at h
    have h1 := h j (List.mem_range.2 hj)
    rw [ho] at h1
    simp only [Option.map_some, Option.getD_some, Array.all_eq_true'] at h1
    unfold Region.ready at hr
    rw [List.filter_eq_nil_iff] at hr
    have h2 := hr j (List.mem_range.2 hj)
    rw [ho] at h2
    simp only [Option.map_some, Option.getD_some, Bool.and_eq_true, Bool.not_eq_true', not_and] at h2
    have hget : listed[j]? = some listed[j] := Array.getElem?_eq_getElem (by omega)
    simp only [Array.getD_eq_getD_getElem?, hget, Option.getD_some] at h2 ⊢
    cases hb : listed[j] with
    | true => rfl
    | false =>
      exact absurd (by
        rw [Array.all_eq_true']
        intro e he
        have h3 := h1 e he
        simp only [Bool.or_eq_true, Bool.not_eq_true', decide_eq_true_eq] at h3 ⊢
        rcases h3 with h3 | h3
        · exact .inl h3
        · have h4 := ih e.on h3 (by omega)
          simp only [Array.getD_eq_getD_getElem?] at h4
          exact .inr h4) (h2 hb)

theorem wanted_none {o : Oper} {y : Nat → Option Bool} (h : o.guard = none) : Region.wanted o y = true := by simp [Region.wanted, h]
theorem wanted_some {o : Oper} {a : Act} {j d : Nat} {oj : Oper} {b : Bool} (h : o.guard = some (j, b)) (hj : ops[j]? = some oj) (hd : oj.dst = some d) (hs : d < a.tmps.size) (hv : a.tmps.getD d undef = .bool b) : Region.wanted o (yielded ops a.tmps) = true := by
  have : a.tmps[d]? = some (.bool b) := by
    rw [Array.getElem?_eq_getElem hs]
    simp only [Array.getD_eq_getD_getElem?, Array.getElem?_eq_getElem hs, Option.getD_some] at hv
    rw [hv]
  simp [Region.wanted, h, yielded, hj, hd, this]

/-- Which operations come ahead of each, as masks of bits, direct or not. -/
def maskOf (prev : List Nat) (o : Oper) : Nat := o.after.toList.foldl (fun m e => if Region.binds .any e then m ||| 2 ^ e.on ||| prev.getD e.on 0 else m) 0
def masks : List Oper → List Nat → List Nat
  | [], prev => prev
  | o :: l, prev => masks l (prev ++ [maskOf prev o])
def ahead (ops : Array Oper) (i j : Nat) : Bool := ((masks ops.toList []).getD i 0).testBit j

theorem maskOf_spec {prev : List Nat} {o : Oper} {L : Nat → Bool} (hd : ∀ e ∈ o.after.toList, Region.binds .any e = true → L e.on = true) (hp : ∀ i j, L i = true → (prev.getD i 0).testBit j = true → L j = true) :
    ∀ j, (maskOf prev o).testBit j = true → L j = true := by
  unfold maskOf
  have : ∀ (es : List Edge) (m : Nat), (∀ e ∈ es, Region.binds .any e = true → L e.on = true) → (∀ j, m.testBit j = true → L j = true) →
      ∀ j, (es.foldl (fun m e => if Region.binds .any e then m ||| 2 ^ e.on ||| prev.getD e.on 0 else m) m).testBit j = true → L j = true := by
    intro es
    induction es with
    | nil => intro m _ hm j hj; exact hm j hj
    | cons e es ih =>
      intro m hes hm j hj
      rw [List.foldl_cons] at hj
      refine ih _ (fun e' he' => hes e' (List.mem_cons_of_mem _ he')) ?_ j hj
      intro j hj
      split at hj
      · rename_i hb
        rw [Nat.testBit_or, Nat.testBit_or] at hj
        simp only [Bool.or_eq_true] at hj
        have hon := hes e (List.mem_cons_self ..) hb
        rcases hj with (hj | hj) | hj
        · exact hm j hj
        · rw [Nat.testBit_two_pow] at hj
          have : e.on = j := by simpa using hj
          rw [← this]; exact hon
        · exact hp _ _ hon hj
      · exact hm j hj
  exact this _ 0 hd (fun j hj => by simp at hj)
theorem masks_spec {L : Nat → Bool} : ∀ (l : List Oper) (prev : List Nat), (∀ i j, L i = true → (prev.getD i 0).testBit j = true → L j = true) →
    (∀ i o, l[i]? = some o → L (prev.length + i) = true → ∀ e ∈ o.after.toList, Region.binds .any e = true → L e.on = true) →
    ∀ i j, L i = true → ((masks l prev).getD i 0).testBit j = true → L j = true
  | [], prev, hp, _ => hp
  | o :: l, prev, hp, hl => by
    refine masks_spec l (prev ++ [maskOf prev o]) ?_ ?_
    · intro i j hi hj
      by_cases h : i < prev.length
      · rw [List.getD_eq_getElem?_getD, List.getElem?_append_left h, ← List.getD_eq_getElem?_getD] at hj
        exact hp i j hi hj
      · by_cases h2 : i = prev.length
        · subst h2
          rw [List.getD_eq_getElem?_getD, List.getElem?_append_right (Nat.le_refl _), Nat.sub_self] at hj
          exact maskOf_spec (hl 0 o rfl hi) hp j hj
        · rw [List.getD_eq_getElem?_getD, List.getElem?_eq_none (by simp; omega)] at hj
          simp at hj
    · intro i o' hi hL
      refine hl (i + 1) o' hi ?_
      rw [List.length_append, List.length_singleton] at hL
      rw [show prev.length + (i + 1) = prev.length + 1 + i by omega]; exact hL
theorem ahead_spec {listed : Array Bool} (hs : ∀ j i, listed.getD j false = true → behind ops j i = true → listed.getD i false = true) {i j : Nat} (ha : ahead ops i j = true) (hi : listed.getD i false = true) : listed.getD j false = true := by
  refine masks_spec (L := fun i => listed.getD i false) ops.toList [] (by simp) ?_ i j hi ha
  intro i o ho hL e he hb
  refine hs i e.on (by simpa using hL) ?_
  have ho' : ops[i]? = some o := by simpa using ho
  unfold behind
  rw [ho']
  simp only [Option.map_some, Option.getD_some, Array.any_eq_true']
  exact ⟨e, by simpa using he, by simp [hb]⟩
/-- What operation j has yielded. -/
def got (ops : Array Oper) (a : Act) (j : Nat) : Value := match (ops[j]?).bind (·.dst) with | some d => a.tmps.getD d undef | none => undef
theorem got_dst {a : Act} {j d : Nat} {o : Oper} (ho : ops[j]? = some o) (hd : o.dst = some d) : got ops a j = a.tmps.getD d undef := by simp [got, ho, hd]
/-- The phases: told by which operations have come up, and by what those have yielded. -/
abbrev Phases := (Nat → Bool) → (Nat → Value) → World → Prop
def also (L : Nat → Bool) (i : Nat) : Nat → Bool := fun j => j == i || L j
def yielding (f : Nat → Value) (i : Nat) (v : Value) : Nat → Value := fun j => if j = i then v else f j

/-- What holds at any moment of the region. -/
structure NowP (ops : Array Oper) (V : Nat → Value → Prop) (M : Phases) (a0 : Act) (listed : Array Bool) (a : Act) (w : World) : Prop where
  phase : M (fun j => listed.getD j false) (got ops a) w
  size : a.tmps.size = a0.tmps.size
  defers : a.defers = a0.defers
  len : listed.size = ops.size
  done_ : ∀ j o d, listed.getD j false = true → ops[j]? = some o → o.dst = some d → V j (a.tmps.getD d undef)
  old : ∀ t, (∀ j o, listed.getD j false = true → ops[j]? = some o → o.dst ≠ some t) → a.tmps.getD t undef = a0.tmps.getD t undef
  shut : ∀ j i, listed.getD j false = true → behind ops j i = true → listed.getD i false = true

/-- One operation's duty. -/
def DutyP (P : Program) (ops : Array Oper) (Q : Exit → Act → World → Prop) (V : Nat → Value → Prop) (M : Phases) (a0 : Act) (i : Nat) (o : Oper) : Prop :=
  ∀ (L : Nat → Bool) (a : Act) (w : World), M L (got ops a) w → a.tmps.size = a0.tmps.size → L i = false → (∀ j, ahead ops j i = true → L j = false) → (∀ j, behind ops i j = true → L j = true) →
    (∀ t, oldB ops i t = true → a.tmps.getD t undef = a0.tmps.getD t undef) →
    (∀ j oj d, behind ops i j = true → ops[j]? = some oj → oj.dst = some d → V j (a.tmps.getD d undef)) →
    if Region.wanted o (yielded ops a.tmps) = true then o.wp P a w (fun a' w' => ∃ v, a' = a.put o.dst v ∧ V i v ∧ M (also L i) (yielding (got ops a) i v) w') Q
    else V i undef ∧ M (also L i) (yielding (got ops a) i undef) w

theorem NowP.step {V : Nat → Value → Prop} {M : Phases} {a0 : Act} (hB : onceB ops = true) (hR : roomB ops a0.tmps.size = true) (hM : ∀ L L' f f' w, (∀ j, j < ops.size → L j = L' j) → (∀ j, j < ops.size → L j = true → (∃ o d, ops[j]? = some o ∧ o.dst = some d) → f j = f' j) → M L f w → M L' f' w)
    {listed : Array Bool} {a : Act} {w : World} (h : NowP ops V M a0 listed a w) {i : Nat} {o : Oper} (hi : i ∈ Region.ready .any ops listed) (ho : ops[i]? = some o)
    {v : Value} {w' : World} (hv : V i v) (hph : M (also (fun j => listed.getD j false) i) (yielding (got ops a) i v) w') : NowP ops V M a0 (listed.setIfInBounds i true) (a.put o.dst v) w' := by
  have hlt : i < ops.size := (Array.getElem?_eq_some_iff.1 ho).1
  have hl : i < listed.size := by rw [h.len]; exact hlt
  have hready : listed.getD i true = false ∧ (o.after.all fun e => !Region.binds .any e || listed.getD e.on false) = true := by
    unfold Region.ready at hi
    rw [List.mem_filter] at hi
    have := hi.2
    rw [ho] at this
    simpa using this
  have hroom : ∀ d, o.dst = some d → d < a.tmps.size := by
    intro d hd
    unfold roomB at hR
    rw [List.all_eq_true] at hR
    have := hR o (Array.mem_toList_iff.2 (Array.mem_of_getElem? ho))
    rw [hd] at this
    rw [h.size]
    simpa using this
  have hapart : ∀ j oj d d', i ≠ j → ops[j]? = some oj → oj.dst = some d → o.dst = some d' → ¬ d = d' := by
    intro j oj d d' e hoj hd hod e2
    subst e2
    unfold onceB at hB
    rw [List.all_eq_true] at hB
    have h1 := hB i (List.mem_range.2 hlt)
    rw [List.all_eq_true] at h1
    have h2 := h1 j (List.mem_range.2 (Array.getElem?_eq_some_iff.1 hoj).1)
    rw [ho, hoj] at h2
    simp [hod, hd, e] at h2
  have hother : ∀ j oj d, i ≠ j → ops[j]? = some oj → oj.dst = some d → (a.put o.dst v).tmps.getD d undef = a.tmps.getD d undef := by
    intro j oj d e hoj hd
    cases hod : o.dst with
    | none => rfl
    | some d' => rw [getD_put, if_neg (fun hh => hapart j oj d d' e hoj hd hod hh.1)]
  refine ⟨?_, ?_, ?_, by simp [h.len], ?_, ?_, ?_⟩
  · refine hM _ _ _ _ _ (fun j _ => ?_) (fun j hj _ hex => ?_) hph
    · show (j == i || listed.getD j false) = (listed.setIfInBounds i true).getD j false
      rw [set_getD _ _ _ hl]
      by_cases e : i = j
      · subst e; simp
      · rw [if_neg e, show (j == i) = false by simp; exact fun h => e h.symm, Bool.false_or]
    · obtain ⟨oj, d, hoj, hd⟩ := hex
      rw [got_dst hoj hd]
      by_cases e : j = i
      · subst e
        rw [ho] at hoj
        injection hoj with hoj
        subst hoj
        rw [hd, getD_put, if_pos ⟨rfl, hroom d hd⟩]
        simp [yielding]
      · rw [hother j oj d (fun h => e h.symm) hoj hd, ← got_dst hoj hd]
        simp [yielding, e]
  · rw [← h.size]; unfold Act.put; cases o.dst <;> simp
  · rw [← h.defers]; unfold Act.put; cases o.dst <;> rfl
  · intro j oj d hj hoj hd
    rw [set_getD _ _ _ hl] at hj
    by_cases e : i = j
    · subst e
      rw [ho] at hoj
      injection hoj with hoj
      subst hoj
      rw [hd, getD_put, if_pos ⟨rfl, hroom d hd⟩]
      exact hv
    · rw [if_neg e] at hj
      rw [hother j oj d e hoj hd]
      exact h.done_ j oj d hj hoj hd
  · intro t ht
    have h1 := h.old t (fun j oj hj hoj => ht j oj (by rw [set_getD _ _ _ hl]; by_cases e : i = j <;> simp [e, hj]) hoj)
    have h2 := ht i o (by rw [set_getD _ _ _ hl]; simp) ho
    cases hod : o.dst with
    | none => exact h1
    | some d' =>
      rw [getD_put, if_neg (fun hh => h2 (by rw [hod, hh.1]))]
      exact h1
  · intro j k hj hjk
    rw [set_getD _ _ _ hl] at hj ⊢
    by_cases e : i = j
    · subst e
      have : listed.getD k false = true := by
        unfold behind at hjk
        rw [ho] at hjk
        simp only [Option.map_some, Option.getD_some, Array.any_eq_true'] at hjk
        obtain ⟨e', he', hb⟩ := hjk
        have h3 := hready.2
        rw [Array.all_eq_true'] at h3
        have h4 := h3 e' he'
        simp only [Bool.and_eq_true, beq_iff_eq] at hb
        rw [hb.1, hb.2] at h4
        simpa using h4
      by_cases e2 : i = k <;> simp [e2, this]
    · rw [if_neg e] at hj
      by_cases e2 : i = k
      · simp [e2]
      · rw [if_neg e2]; exact h.shut j k hj hjk

theorem wpAny_nowP {V : Nat → Value → Prop} {M : Phases} {a0 : Act} (hB : onceB ops = true) (hR : roomB ops a0.tmps.size = true) (hM : ∀ L L' f f' w, (∀ j, j < ops.size → L j = L' j) → (∀ j, j < ops.size → L j = true → (∃ o d, ops[j]? = some o ∧ o.dst = some d) → f j = f' j) → M L f w → M L' f' w)
    (duty : ∀ i o, ops[i]? = some o → DutyP P ops Q V M a0 i o)
    (fin : ∀ listed a w, Region.ready .any ops listed = [] → NowP ops V M a0 listed a w → Q .normal a w) :
    ∀ (fuel : Nat) (listed : Array Bool) (a : Act) (w : World), ((List.range ops.size).filter fun i => !listed.getD i true).length ≤ fuel → NowP ops V M a0 listed a w → wpAny P .any ops Q fuel listed a w := by
  intro fuel
  induction fuel with
  | zero =>
    intro listed a w hf hn
    have hr : Region.ready .any ops listed = [] := by
      have h0 : ((List.range ops.size).filter fun i => !listed.getD i true) = [] := List.eq_nil_of_length_eq_zero (by omega)
      unfold Region.ready
      rw [List.filter_eq_nil_iff] at h0 ⊢
      intro i hi
      have := h0 i hi
      simp only [Bool.and_eq_true, not_and]
      intro h1
      exact absurd h1 this
    exact ⟨hr, fin _ _ _ hr hn⟩
  | succ fuel ih =>
    intro listed a w hf hn
    refine ⟨fun hr => fin _ _ _ hr hn, fun i hi => ?_⟩
    have hmem := hi
    unfold Region.ready at hmem
    rw [List.mem_filter, List.mem_range] at hmem
    have ho : ops[i]? = some ops[i] := Array.getElem?_eq_getElem hmem.1
    have hready := hmem.2
    rw [ho] at hready
    simp only [Option.map_some, Option.getD_some, Bool.and_eq_true, Bool.not_eq_true'] at hready
    have hl : i < listed.size := by rw [hn.len]; exact hmem.1
    have hfuel : ((List.range ops.size).filter fun k => !(listed.setIfInBounds i true).getD k true).length ≤ fuel := by
      have h1 : ∀ l : List Nat, (l.filter fun k => !(listed.setIfInBounds i true).getD k true).length + (l.filter fun k => k == i).length ≤ (l.filter fun k => !listed.getD k true).length := by
        intro l
        induction l with
        | nil => simp
        | cons x l ihl =>
          simp only [List.filter_cons]
          by_cases e : x = i
          · subst e
            have e1 : (listed.setIfInBounds x true).getD x true = true := by
              simp only [Array.getD_eq_getD_getElem?, Array.getElem?_setIfInBounds]; simp [hl]
            simp only [e1, hready.1, beq_self_eq_true, Bool.not_true, Bool.not_false, if_true, Bool.false_eq_true, if_false, List.length_cons]
            omega
          · have e1 : (listed.setIfInBounds i true).getD x true = listed.getD x true := by
              simp only [Array.getD_eq_getD_getElem?, Array.getElem?_setIfInBounds]
              rw [if_neg (fun h => e h.symm)]
            have e2 : (x == i) = false := by simp [e]
            simp only [e1, e2, Bool.false_eq_true, if_false]
            split
            · simp only [List.length_cons]; omega
            · exact ihl
      have h2 := h1 (List.range ops.size)
      have h3 : 1 ≤ ((List.range ops.size).filter fun k => k == i).length := by
        have : i ∈ (List.range ops.size).filter fun k => k == i := by simp [hmem.1]
        exact List.length_pos_of_mem this
      omega
    have hif : listed.getD i false = false := by
      have h3 := hready.1
      simp only [Array.getD_eq_getD_getElem?] at h3 ⊢
      rw [Array.getElem?_eq_getElem hl] at h3 ⊢
      simpa using h3
    have hbehind : ∀ j, behind ops i j = true → listed.getD j false = true := by
      intro j hb
      unfold behind at hb
      rw [ho] at hb
      simp only [Option.map_some, Option.getD_some, Array.any_eq_true'] at hb
      obtain ⟨e', he', hbb⟩ := hb
      have h3 := hready.2
      rw [Array.all_eq_true'] at h3
      have h4 := h3 e' he'
      simp only [Bool.and_eq_true, beq_iff_eq] at hbb
      rw [hbb.1, hbb.2] at h4
      simpa using h4
    unfold wpOp
    rw [ho]
    have hd := duty i _ ho (fun j => listed.getD j false) a w hn.phase hn.size hif (fun j hj => by
        cases hx : listed.getD j false with
        | false => rfl
        | true => rw [ahead_spec hn.shut hj hx] at hif; cases hif) hbehind
      (fun t ht => hn.old t (fun j oj hj hoj hdst => by
        unfold oldB at ht
        rw [List.all_eq_true] at ht
        have h1 := ht j (List.mem_range.2 (Array.getElem?_eq_some_iff.1 hoj).1)
        rw [hoj] at h1
        simp only [Option.map_some, Option.getD_some, Bool.or_eq_true, hdst, bne_self_eq_false, Bool.false_eq_true, false_or] at h1
        have h2 := hn.shut j i hj h1
        rw [h2] at hif
        cases hif))
      (fun j oj d hb hoj hdst => hn.done_ j oj d (hbehind j hb) hoj hdst)
    show if Region.wanted ops[i] (yielded ops a.tmps) = true then _ else _
    split at hd
    · rename_i hw
      rw [if_pos hw]
      refine .inl (Oper.wp_mono ?_ hd)
      rintro a' w' ⟨v, rfl, hv, hph⟩
      exact ih _ _ _ hfuel (hn.step hB hR hM hi ho hv hph)
    · rename_i hw
      rw [if_neg hw]
      exact ih _ _ _ hfuel (hn.step hB hR hM hi ho hd.1 hd.2)

/-- No operation writes slot t. -/
def neverB (ops : Array Oper) (t : Nat) : Bool := ops.all fun o => o.dst != some t
/-- A frame, slot by slot. -/
theorem slots_of (A : Array Value) (n : Nat) (h : A.size = n) : A = ((List.range n).map fun i => A.getD i undef).toArray := by
  apply Array.ext
  · simp [h]
  · intro i h1 h2
    simp [Array.getD_eq_getD_getElem?, h1]
/-- The law. -/
theorem region_phases {id : Nat} {a0 : Act} {w0 : World} (V : Nat → Value → Prop) (M : Phases) (hm : P.follows .mixedOrders = true) (hB : onceB ops = true) (hR : roomB ops a0.tmps.size = true) (hlow : lowB ops = true)
    (hM : ∀ L L' f f' w, (∀ j, j < ops.size → L j = L' j) → (∀ j, j < ops.size → L j = true → (∃ o d, ops[j]? = some o ∧ o.dst = some d) → f j = f' j) → M L f w → M L' f' w)
    (h0 : M (fun _ => false) (got ops a0) w0.drew)
    (duty : ∀ i o, ops[i]? = some o → DutyP P ops Q V M a0 i o)
    (fin : ∀ a w, M (fun _ => true) (got ops a) w → a.tmps.size = a0.tmps.size → a.defers = a0.defers → (∀ (j : Nat) (o : Oper) (d : Tmp), ops[j]? = some o → o.dst = some d → V j (a.tmps.getD d undef)) →
      (∀ t : Tmp, neverB ops t = true → a.tmps.getD t undef = a0.tmps.getD t undef) → Q .normal a w) :
    (Code.region id ops true).wp P Q a0 w0 := by
  refine wp_region_any hm ?_
  have hrep : ∀ j, (Array.replicate ops.size false).getD j false = false := by
    intro j
    simp only [Array.getD_eq_getD_getElem?, Array.getElem?_replicate]
    split <;> rfl
  refine wpAny_nowP hB hR hM duty ?_ _ _ _ _ (Nat.le_trans (List.length_filter_le _ _) (by simp)) ⟨hM _ _ _ _ _ (fun j _ => (hrep j).symm) (fun _ _ h => by cases h) h0, rfl, rfl, by simp, ?_, fun _ _ => rfl, ?_⟩
  · intro listed a w hr hn
    have hall := hend_of hlow listed hn.len hr
    refine fin a w (hM _ _ _ _ _ (fun j hj => hall j hj) (fun _ _ _ _ => rfl) hn.phase) hn.size hn.defers (fun j o d ho hd => hn.done_ j o d (hall j (Array.getElem?_eq_some_iff.1 ho).1) ho hd) (fun t ht => hn.old t (fun j o _ ho hd => by
      unfold neverB at ht
      rw [Array.all_eq_true'] at ht
      have := ht o (Array.mem_of_getElem? ho)
      rw [hd] at this
      simp at this))
  · intro j o d hj
    rw [hrep] at hj; cases hj
  · intro j i hj
    rw [hrep] at hj; cases hj

/-- An operation that yields its value at once. -/
theorem wp_yields {o : Oper} {a : Act} {w w' : World} {v : Value} {i : Nat} {L : Nat → Bool} {V : Nat → Value → Prop} {M : Phases} (hrun : (execOp a.eval o).run P w = .ok (.value v) w') (hV : V i v) (hM : M (also L i) (yielding (got ops a) i v) w') :
    o.wp P a w (fun a' w' => ∃ v, a' = a.put o.dst v ∧ V i v ∧ M (also L i) (yielding (got ops a) i v) w') Q := by
  unfold Oper.wp
  rw [hrun]
  exact ⟨v, rfl, hV, hM⟩
/-- An operation that yields nothing (a store). -/
theorem wp_skips {o : Oper} {a : Act} {w w' : World} {i : Nat} {L : Nat → Bool} {V : Nat → Value → Prop} {M : Phases} (hrun : (execOp a.eval o).run P w = .ok .skip w') (hV : V i undef) (hM : M (also L i) (yielding (got ops a) i undef) w') :
    o.wp P a w (fun a' w' => ∃ v, a' = a.put o.dst v ∧ V i v ∧ M (also L i) (yielding (got ops a) i v) w') Q := by
  unfold Oper.wp
  rw [hrun]
  exact ⟨undef, rfl, hV, hM⟩

/-! ### Phases as a list: behind operation k the world is as 'of' says, of what operation j yielded. -/
structure Phase where
  k : Nat
  j : Nat
  of : Value → World → Prop
def phased : List Phase → (World → Prop) → Phases
  | [], A => fun _ _ w => A w
  | p :: r, A => fun L f w => if L p.k = true then L p.j = true ∧ p.of (f p.j) w else phased r A L f w
def phasedB (ops : Array Oper) (ps : List Phase) : Bool := ps.all fun p => decide (p.k < ops.size) && decide (p.j < ops.size) && (((ops[p.j]?).bind (·.dst)).isSome)
theorem phased_ext {ops : Array Oper} : ∀ {ps : List Phase} {A : World → Prop}, phasedB ops ps = true → ∀ (L L' : Nat → Bool) (f f' : Nat → Value) (w : World), (∀ j, j < ops.size → L j = L' j) → (∀ j, j < ops.size → L j = true → (∃ o d, ops[j]? = some o ∧ o.dst = some d) → f j = f' j) → phased ps A L f w → phased ps A L' f' w
  | [], _, _, _, _, _, _, _, _, _, h => h
  | p :: r, A, hB, L, L', f, f', w, hL, hf, h => by
    simp only [phasedB, List.all_cons, Bool.and_eq_true, decide_eq_true_eq] at hB
    obtain ⟨⟨⟨hk, hj⟩, hd⟩, hr⟩ := hB
    unfold phased at h ⊢
    rw [← hL _ hk]
    split
    · rename_i hlk
      rw [if_pos hlk] at h
      obtain ⟨h1, h2⟩ := h
      have hex : ∃ o d, ops[p.j]? = some o ∧ o.dst = some d := by
        cases ho : ops[p.j]? with
        | none => rw [ho] at hd; simp at hd
        | some o =>
          rw [ho] at hd
          simp only [Option.bind_some] at hd
          obtain ⟨d, hd⟩ := Option.isSome_iff_exists.1 hd
          exact ⟨o, d, rfl, hd⟩
      exact ⟨by rw [← hL _ hj]; exact h1, by rw [← hf _ hj h1 hex]; exact h2⟩
    · rename_i hlk
      rw [if_neg hlk] at h
      exact phased_ext (by unfold phasedB; exact hr) L L' f f' w hL hf h
/-- An operation that tells of no phase. -/
theorem phased_quiet {i : Nat} {L : Nat → Bool} {f : Nat → Value} {v : Value} {w : World} (hLi : L i = false) : ∀ {ps : List Phase} {A : World → Prop}, (ps.all fun p => p.k != i) = true → phased ps A L f w → phased ps A (also L i) (yielding f i v) w
  | [], _, _, h => h
  | p :: r, A, hB, h => by
    simp only [List.all_cons, Bool.and_eq_true, bne_iff_ne, ne_eq] at hB
    obtain ⟨hk, hr⟩ := hB
    unfold phased at h ⊢
    have ek : also L i p.k = L p.k := by simp [also, hk]
    rw [ek]
    split
    · rename_i hlk
      rw [if_pos hlk] at h
      have hj : ¬ p.j = i := fun e => by have h1 := h.1; rw [e, hLi] at h1; cases h1
      exact ⟨by simp [also, h.1], by simpa [yielding, hj] using h.2⟩
    · rename_i hlk; rw [if_neg hlk] at h; exact phased_quiet hLi hr h
/-- What every phase says. -/
theorem phased_all {R : World → Prop} {L : Nat → Bool} {f : Nat → Value} {w : World} : ∀ {ps : List Phase} {A : World → Prop}, (∀ p ∈ ps, ∀ v w, p.of v w → R w) → (∀ w, A w → R w) → phased ps A L f w → R w
  | [], _, _, hA, h => hA _ h
  | p :: r, A, hp, hA, h => by
    unfold phased at h
    split at h
    · exact hp p (List.mem_cons_self ..) _ _ h.2
    · exact phased_all (fun q hq => hp q (List.mem_cons_of_mem _ hq)) hA h
/-- None of the phases' operations has come up. -/
theorem phased_first {L : Nat → Bool} {f : Nat → Value} {w : World} : ∀ {ps : List Phase} {A : World → Prop}, (∀ p ∈ ps, L p.k = false) → phased ps A L f w → A w
  | [], _, _, h => h
  | p :: r, A, hn, h => by
    unfold phased at h
    rw [if_neg (by rw [hn p (List.mem_cons_self ..)]; decide)] at h
    exact phased_first (fun q hq => hn q (List.mem_cons_of_mem _ hq)) h
/-- The values that are known, by operation. -/
def valV (vs : List (Option Value)) (j : Nat) (v : Value) : Prop := ∀ u, vs[j]? = some (some u) → v = u
end
end
section
/- A region whose order is drawn and whose operations, whatever they are, turn nothing that was there: each operation's value is said by a word that stays true while memory grows; the words of all hold behind the region. -/
open Go.RowKit
set_option maxRecDepth 20000

/-- What is said of a value, and stays said while memory grows. -/
structure Say where
  p : World → Value → Prop
  st : ∀ w w' v, p w v → Below w.heap.size w w' → p w' v
/-- Nothing is said. -/
def Say.any : Say := ⟨fun _ _ => True, fun _ _ _ _ _ => trivial⟩
/-- It is this one. -/
def Say.is (u : Value) : Say := ⟨fun _ v => v = u, fun _ _ _ h _ => h⟩
/-- It is a slice that reads as these bytes, n of them. -/
def Say.rd (n : Nat) (l : List UInt8) : Say := ⟨fun w v => ∃ A c, v = .slice A n c ∧ Rd w (.slice A n c) (u8s l), fun _ _ _ ⟨A, c, e, h⟩ hb => ⟨A, c, e, h.below hb⟩⟩
/-- It is a slice that reads as such values. -/
def Say.row (xs : List Value) : Say := ⟨fun w v => Rd w v xs, fun _ _ _ h hb => h.below hb⟩
/-- It is a block of its own. -/
def Say.blk (B : Nat) (t : TypeId) (cs : Array Value) : Say := ⟨fun w v => ∃ g, v = .pointer (some ⟨g, 0, none⟩) ∧ B ≤ g ∧ Blk w g t cs, fun _ _ _ ⟨g, e, hg, h⟩ hb => ⟨g, e, hg, h.below hb⟩⟩
theorem rd_cap {w : World} {A : Option Addr} {n c : Nat} {xs : List Value} (h : Rd w (.slice A n c) xs) : n ≤ c := by
  obtain ⟨A', c', he, hc, _⟩ := h
  injection he with _ e2 e3
  omega
def says (l : List Say) (j : Nat) : Say := (l[j]?).getD Say.any

section
variable {P : Program} {ops : Array Oper} {Q : Exit → Act → World → Prop}
/-- One operation's duty. -/
def DutyG (P : Program) (ops : Array Oper) (Q : Exit → Act → World → Prop) (l : List Say) (a0 : Act) (W : World) (i : Nat) (o : Oper) : Prop :=
  ∀ (a : Act) (w : World), Below W.heap.size W w → a.tmps.size = a0.tmps.size → (∀ t, oldB ops i t = true → a.tmps.getD t undef = a0.tmps.getD t undef) →
    (∀ j oj d, behind ops i j = true → ops[j]? = some oj → oj.dst = some d → (says l j).p w (a.tmps.getD d undef)) →
    if Region.wanted o (yielded ops a.tmps) = true then o.wp P a w (fun a' w' => ∃ v, a' = a.put o.dst v ∧ (says l i).p w' v ∧ Below w.heap.size w w') Q
    else (says l i).p w undef
/-- The world grows; each word that is due is said. -/
def grown (ops : Array Oper) (l : List Say) (W : World) : Phases := fun L f w => Below W.heap.size W w ∧ ∀ j, j < ops.size → L j = true → (∃ o d, ops[j]? = some o ∧ o.dst = some d) → (says l j).p w (f j)
theorem grown_step {l : List Say} {W w w' : World} {L : Nat → Bool} {f : Nat → Value} {i : Nat} {v : Value} (h : grown ops l W L f w) (hs : (says l i).p w' v) (hb : Below w.heap.size w w') : grown ops l W (also L i) (yielding f i v) w' := by
  refine ⟨h.1.trans (hb.mono h.1.size), fun j hj hl hex => ?_⟩
  by_cases e : j = i
  · subst e
    simpa [yielding] using hs
  · have h1 := h.2 j hj (by simpa [also, e] using hl) hex
    have := (says l j).st w w' _ h1 hb
    simpa [yielding, e] using this
theorem region_grows {id : Nat} {a0 : Act} {W : World} (l : List Say) (hm : P.follows .mixedOrders = true) (hB : onceB ops = true) (hR : roomB ops a0.tmps.size = true) (hlow : lowB ops = true)
    (duty : ∀ i o, ops[i]? = some o → DutyG P ops Q l a0 W i o)
    (fin : ∀ a w, Below W.heap.size W w → a.tmps.size = a0.tmps.size → a.defers = a0.defers → (∀ (j : Nat) (o : Oper) (d : Tmp), ops[j]? = some o → o.dst = some d → (says l j).p w (a.tmps.getD d undef)) →
      (∀ t : Tmp, neverB ops t = true → a.tmps.getD t undef = a0.tmps.getD t undef) → Q .normal a w) :
    (Code.region id ops true).wp P Q a0 W := by
  refine region_phases (fun _ _ => True) (grown ops l W) hm hB hR hlow ?_ ?_ ?_ ?_
  · intro L L' f f' w hL hf h
    exact ⟨h.1, fun j hj hl hex => by rw [← hf j hj (by rw [hL j hj]; exact hl) hex]; exact h.2 j hj (by rw [hL j hj]; exact hl) hex⟩
  · exact ⟨(Below.refl _ _).drew, fun _ _ h => by cases h⟩
  · intro i o ho L a w hph hsz hLi hnot hyes old dep
    have h1 := duty i o ho a w hph.1 hsz old (fun j oj d hbd hoj hd => by
      have := hph.2 j (Array.getElem?_eq_some_iff.1 hoj).1 (hyes j hbd) ⟨oj, d, hoj, hd⟩
      rwa [got_dst hoj hd] at this)
    split at h1
    · rename_i hw
      rw [if_pos hw]
      refine Oper.wp_mono ?_ h1
      rintro a' w' ⟨v, e, hs, hb⟩
      exact ⟨v, e, trivial, grown_step hph hs hb⟩
    · rename_i hw
      rw [if_neg hw]
      exact ⟨trivial, grown_step hph h1 (Below.refl _ _)⟩
  · intro a w hph hsz hdf _ keep
    refine fin a w hph.1 hsz hdf (fun j o d ho hd => ?_) keep
    have := hph.2 j (Array.getElem?_eq_some_iff.1 ho).1 rfl ⟨o, d, ho, hd⟩
    rwa [got_dst ho hd] at this

/-- An operation that yields its value at once. -/
theorem grow_yields {o : Oper} {a : Act} {w w' : World} {v : Value} {s : Say} (hrun : (execOp a.eval o).run P w = .ok (.value v) w') (hs : s.p w' v) (hb : Below w.heap.size w w') :
    o.wp P a w (fun a' w' => ∃ v, a' = a.put o.dst v ∧ s.p w' v ∧ Below w.heap.size w w') Q := by
  unfold Oper.wp
  rw [hrun]
  exact ⟨v, rfl, hs, hb⟩
theorem grow_same {o : Oper} {a : Act} {w : World} {v : Value} {s : Say} (hrun : (execOp a.eval o).run P w = .ok (.value v) w) (hs : s.p w v) :
    o.wp P a w (fun a' w' => ∃ v, a' = a.put o.dst v ∧ s.p w' v ∧ Below w.heap.size w w') Q := grow_yields hrun hs (Below.refl _ _)
/-- A call. -/
theorem grow_enters {o : Oper} {a : Act} {w : World} {f : FuncId} {args : Array Value} {s : Say} (hrun : (execOp a.eval o).run P w = .ok (.enter f args) w)
    (hc : Calls P f args w fun e w' => ∃ v, e = .returned v ∧ s.p w' v ∧ Below w.heap.size w w') :
    o.wp P a w (fun a' w' => ∃ v, a' = a.put o.dst v ∧ s.p w' v ∧ Below w.heap.size w w') Q := by
  unfold Oper.wp
  rw [hrun, Oper.upon_enter]
  refine hc.mono ?_
  rintro e w' ⟨v, rfl, hr⟩
  exact ⟨v, rfl, hr⟩
theorem wanted_not {o : Oper} {a : Act} {j d : Nat} {oj : Oper} {b c : Bool} (h : o.guard = some (j, b)) (hj : ops[j]? = some oj) (hd : oj.dst = some d) (hs : d < a.tmps.size) (hv : a.tmps.getD d undef = .bool c) (hbc : (c == b) = false) : ¬ Region.wanted o (yielded ops a.tmps) = true := by
  have : a.tmps[d]? = some (.bool c) := by
    rw [Array.getElem?_eq_getElem hs]
    simp only [Array.getD_eq_getD_getElem?, Array.getElem?_eq_getElem hs, Option.getD_some] at hv
    rw [hv]
  cases b <;> cases c <;> simp_all [Region.wanted, yielded]
theorem wanted_undef {o : Oper} {a : Act} {j d : Nat} {oj : Oper} {b : Bool} (h : o.guard = some (j, b)) (hj : ops[j]? = some oj) (hd : oj.dst = some d) (hs : d < a.tmps.size) (hv : a.tmps.getD d undef = undef) : ¬ Region.wanted o (yielded ops a.tmps) = true := by
  have : a.tmps[d]? = some undef := by
    rw [Array.getElem?_eq_getElem hs]
    simp only [Array.getD_eq_getD_getElem?, Array.getElem?_eq_getElem hs, Option.getD_some] at hv
    rw [hv]
  cases b <;> simp [Region.wanted, h, yielded, hj, hd, this, undef]
/-- The frame behind a region: the old one, with the region's own slots. -/
def dstsL (ops : Array Oper) : List Nat := ops.toList.filterMap (·.dst)
theorem frame_fold (tm : Array Value) : ∀ (ds : List Nat) (m : Array Value) (t : Nat), t < m.size → (ds.foldl (fun m d => m.setIfInBounds d (tm.getD d undef)) m).getD t undef = if t ∈ ds then tm.getD t undef else m.getD t undef
  | [], m, t, _ => by simp
  | d :: ds, m, t, ht => by
    rw [List.foldl_cons, frame_fold tm ds _ t (by simpa using ht)]
    by_cases h : t ∈ ds
    · simp [h]
    · by_cases e : t = d
      · subst e
        simp [h, ht, Array.getD_eq_getD_getElem?]
      · have e' : ¬ d = t := fun h => e h.symm
        simp [h, e, Array.getD_eq_getD_getElem?, e']
theorem fold_size (tm : Array Value) : ∀ (ds : List Nat) (m : Array Value), (ds.foldl (fun m d => m.setIfInBounds d (tm.getD d undef)) m).size = m.size
  | [], _ => rfl
  | d :: ds, m => by rw [List.foldl_cons, fold_size tm ds, Array.size_setIfInBounds]
theorem frame_of {tm tm0 : Array Value} (ds : List Nat) (hds : dstsL ops = ds) (hsz : tm.size = tm0.size) (keep : ∀ t : Tmp, neverB ops t = true → tm.getD t undef = tm0.getD t undef) :
    tm = ds.foldl (fun m d => m.setIfInBounds d (tm.getD d undef)) tm0 := by
  subst hds
  apply Array.ext
  · rw [fold_size, hsz]
  · intro t h1 h2
    have h3 : t < tm0.size := by omega
    have h := frame_fold tm (dstsL ops) tm0 t h3
    have e1 : tm.getD t undef = tm[t] := by simp [Array.getD_eq_getD_getElem?, h1]
    have e2 : (List.foldl (fun m d => m.setIfInBounds d (tm.getD d undef)) tm0 (dstsL ops)).getD t undef = (List.foldl (fun m d => m.setIfInBounds d (tm.getD d undef)) tm0 (dstsL ops))[t] := by
      rw [Array.getD_eq_getD_getElem?, Array.getElem?_eq_getElem h2]; rfl
    rw [← e1, ← e2, h]
    by_cases hn : t ∈ dstsL ops
    · rw [if_pos hn]
    · rw [if_neg hn]
      refine keep t ?_
      unfold neverB
      rw [Array.all_eq_true']
      intro o ho
      simp only [bne_iff_ne, ne_eq]
      intro e
      refine hn ?_
      unfold dstsL
      rw [List.mem_filterMap]
      exact ⟨o, Array.mem_toList_iff.2 ho, e⟩
end
end
section
/- append of elements of many cells onto a row of one's own, as an operation anywhere. -/
open Go.RowKit
set_option maxRecDepth 20000

theorem wp_append_rows {P : Program} {w : World} {o : Oper} {a : Act} {K : Act → World → Prop} {Q : Exit → Act → World → Prop} (s y : Operand) (t : TypeId)
    (ho : o.op = .call { callee := .builtin .append, args := #[s, y], argTypes := #[t, t] })
    {base : Nat} (e : TypeId) (z : Value) (size bytes : Nat) (ht : P.underlying t = some (.slice e)) (hinfo : (P.info? e).map (fun i => (i.zero, i.size, i.bytes)) = some (some z, size, bytes)) (hzs : z.cells.size = size) (hsz : 0 < size)
    (v : Value) (n : Nat) (xs : List Value) (hs : a.eval s = v) (hown : w.ownsRow base e size v n xs)
    (b c m : Nat) (news : List Value) (hy : a.eval y = .slice (some ⟨b, 0, none⟩) m c) (hl : news.length = m * size) (hnews : ∀ j u, news[j]? = some u → w.cell? ⟨b, j, none⟩ = some u) (h1 : ∀ u ∈ news, u.oneCell' = true)
    (h63 : n + m ≤ maxLen) (hbytes : (n + m) * bytes ≤ 140737488355328) (hbase : base ≤ w.heap.size)
    (h : ∀ v' w', w'.ownsRow base e size v' (n + m) (xs ++ news) → w.grownBy w' v.ownBlock → (v'.ownBlock = v.ownBlock ∨ v'.ownBlock = some w.heap.size) → K (a.put o.dst v') w') :
    o.wp P a w K Q := by
  cases hi : P.info? e with
  | none => simp [hi] at hinfo
  | some i =>
    simp only [hi, Option.map_some, Option.some.injEq, Prod.mk.injEq] at hinfo
    obtain ⟨hz, hsize, hby⟩ := hinfo
    obtain ⟨v', w', hrun, h2, h3, _, h4⟩ := run_append_own_at (P := P) w base t o.type e i z size bytes ht hi hz hsize hby hzs hsz v n xs hown ⟨b, 0, none⟩ m c news hl
      (fun j u hu => by rw [addr_add, Nat.zero_add]; exact hnews j u hu) h1 h63 hbytes hbase
    unfold Oper.wp execOp
    simp only [ho, resolve, invoke, builtin, Sem.run_bind, Sem.run_pure, Result.andThen_ok, List.map_toArray, List.map_cons, List.map_nil, hs, hy, hrun]
    exact h v' w' h2 h3 h4
end
section
/- Contract of package record: read. -/
open Go.RowKit
set_option maxRecDepth 20000

set_option linter.unusedSimpArgs false
set_option linter.unusedVariables false

/-- A reader's state behind n numbers of eight bytes; those numbers. -/
def St.numsSt : Nat → St → St
  | 0, s => s
  | n + 1, s => (St.numsSt n s).numSt 8
def St.nums : Nat → St → List Nat
  | 0, _ => []
  | n + 1, s => St.nums n s ++ [(St.numsSt n s).num 8]
theorem St.nums_length : ∀ (n : Nat) (s : St), (St.nums n s).length = n
  | 0, _ => rfl
  | n + 1, s => by rw [St.nums, List.length_append, St.nums_length n s]; rfl
theorem St.numsSt_length : ∀ (n : Nat) (s : St), (St.numsSt n s).rest.length ≤ s.rest.length
  | 0, _ => Nat.le_refl _
  | n + 1, s => Nat.le_trans (St.numSt_length _ 8) (St.numsSt_length n s)
theorem St.num2_lt (s : St) : s.num 2 < 65536 := by
  unfold St.num
  rw [if_pos (by omega)]
  have h1 := val_lt (s.got 2)
  have h3 : (s.got 2).length ≤ 2 := by
    unfold St.got
    split
    · rw [List.length_take]; omega
    · simp
  have h2 : 256 ^ (s.got 2).length ≤ 256 ^ 2 := Nat.pow_le_pow_right (by omega) h3
  omega
/-- The reader's states where a record would stand, and what it takes. -/
def rd1 (l : List UInt8) : St := (⟨l, false⟩ : St).take 2
def rd2 (l : List UInt8) : St := (rd1 l).numSt 1
def rd3 (l : List UInt8) : St := (rd2 l).numSt 1
def rd4 (l : List UInt8) : St := (rd3 l).numSt 1
def rd5 (l : List UInt8) : St := (rd4 l).numSt 1
def rd6 (l : List UInt8) : St := (rd5 l).textSt
def rd7 (l : List UInt8) : St := (rd6 l).textSt
def rd8 (l : List UInt8) : St := (rd7 l).numSt 2
def rd9 (l : List UInt8) : St := (rd8 l).take ((rd7 l).num 2)
def rdA (l : List UInt8) : St := (rd9 l).numSt 1
def rcI (l : List UInt8) : List UInt8 := (rd8 l).got ((rd7 l).num 2)
def readR (l : List UInt8) : Rc := ⟨(rd1 l).num 1, (rd2 l).num 1, (rd3 l).num 1, (rd4 l).num 1, ⟨(rd5 l).text.toArray⟩, ⟨(rd6 l).text.toArray⟩, ⟨(rcI l).toArray⟩, St.nums ((rd9 l).num 1) (rdA l)⟩
theorem rd_lengths (l : List UInt8) : (rd1 l).rest.length ≤ l.length ∧ (rd2 l).rest.length ≤ l.length ∧ (rd3 l).rest.length ≤ l.length ∧ (rd4 l).rest.length ≤ l.length ∧ (rd5 l).rest.length ≤ l.length ∧ (rd6 l).rest.length ≤ l.length ∧ (rd7 l).rest.length ≤ l.length ∧ (rd8 l).rest.length ≤ l.length ∧ (rd9 l).rest.length ≤ l.length ∧ (rdA l).rest.length ≤ l.length := by
  have h1 : (rd1 l).rest.length ≤ l.length := St.take_length _ _
  have h2 : (rd2 l).rest.length ≤ (rd1 l).rest.length := St.numSt_length _ _
  have h3 : (rd3 l).rest.length ≤ (rd2 l).rest.length := St.numSt_length _ _
  have h4 : (rd4 l).rest.length ≤ (rd3 l).rest.length := St.numSt_length _ _
  have h5 : (rd5 l).rest.length ≤ (rd4 l).rest.length := St.numSt_length _ _
  have h6 : (rd6 l).rest.length ≤ (rd5 l).rest.length := St.textSt_length _
  have h7 : (rd7 l).rest.length ≤ (rd6 l).rest.length := St.textSt_length _
  have h8 : (rd8 l).rest.length ≤ (rd7 l).rest.length := St.numSt_length _ _
  have h9 : (rd9 l).rest.length ≤ (rd8 l).rest.length := St.take_length _ _
  have hA : (rdA l).rest.length ≤ (rd9 l).rest.length := St.numSt_length _ _
  omega

section
variable {w0 w w' : World} {lo g gr : Nat} {s s' : St} {cs : Array Value}
theorem grownBy_set_own {row : Option Nat} (h : w.grownBy w' row) {p : Addr} (hp : w.heap.size ≤ p.block) (u : Value) : w.grownBy (w'.setCell p u) row :=
  ⟨h.os, h.tape, h.output, by have := h.size; simpa [World.setCell] using this, fun k hk hne => (Below.heap_setCell _ _ _ _ (by omega)).trans (h.block k hk hne)⟩
theorem grownBy_one (w : World) (p : Addr) (u : Value) : w.grownBy (w.setCell p u) (some p.block) :=
  ⟨rfl, rfl, rfl, by simp [World.setCell], fun k hk hne => Below.heap_setCell _ _ _ _ (fun e => hne (by rw [e]))⟩
end
theorem infoU64 : (Try.prog.info? 26).map (fun i => (i.zero, i.size, i.bytes)) = some (some (.int .u64 0), 1, 8) := by kernel_rfl
/-- The numbers that were read, in a row of the call's own. -/
def Dty (w : World) (gr : Nat) (v : Value) (ds : List Nat) : Prop := w.ownsRow (gr + 1) 26 1 v ds.length (u64s ds)
theorem Dty.low {w : World} {gr : Nat} {v : Value} {ds : List Nat} (h : Dty w gr v ds) : ∀ k, v.ownBlock = some k → gr < k := fun k hk => (World.ownsRow.lt h k hk).1
theorem Dty.rd {w : World} {gr : Nat} {v : Value} {ds : List Nat} (h : Dty w gr v ds) : Rd w v (u64s ds) := own_rd h
theorem Dty.form {w : World} {gr : Nat} {v : Value} {ds : List Nat} (h : Dty w gr v ds) : ∃ A c, v = .slice A ds.length c := own_form h
theorem Dty.kept {w w' : World} {gr : Nat} {v : Value} {ds : List Nat} {row : Option Nat} (h : Dty w gr v ds) (hg : w.grownBy w' row) (hr : ∀ k, row = some k → k ≤ gr) : Dty w' gr v ds := by
  refine World.ownsRow.kept (row := row) h hg ?_
  cases hv : v.ownBlock with
  | none => exact .inl rfl
  | some k => refine .inr fun e => ?_; have := h.low k hv; have := hr k e.symm; omega
theorem Dty.set {w : World} {gr : Nat} {v : Value} {ds : List Nat} (h : Dty w gr v ds) {p : Addr} (hp : p.block ≤ gr) (u : Value) : Dty (w.setCell p u) gr v ds := h.kept (grownBy_one w p u) (fun k e => by injection e with e; omega)
/-- A slice that reads as a list, its array in a block from lo on, below hi. -/
def Btw (w : World) (lo hi : Nat) (v : Value) (xs : List Value) : Prop :=
  ∃ A c, v = .slice A xs.length c ∧ xs.length ≤ c ∧ (0 < xs.length → ∃ b o, A = some ⟨b, o, none⟩ ∧ lo ≤ b ∧ b < hi ∧ ∀ j u, xs[j]? = some u → w.cell? ⟨b, o + j, none⟩ = some u)
theorem Btw.row {w : World} {lo hi : Nat} {v : Value} {xs : List Value} (h : Btw w lo hi v xs) : Row w hi v xs := by
  obtain ⟨A, c, e, hc, h⟩ := h
  exact ⟨A, c, e, hc, fun hn => by obtain ⟨b, o, e, _, hb, hr⟩ := h hn; exact ⟨b, o, e, hb, hr⟩⟩
theorem Btw.keep {w w' : World} {lo hi : Nat} {v : Value} {xs : List Value} (h : Btw w lo hi v xs) (hk : ∀ p : Addr, lo ≤ p.block → p.block < hi → w'.cell? p = w.cell? p) : Btw w' lo hi v xs := by
  obtain ⟨A, c, e, hc, h⟩ := h
  exact ⟨A, c, e, hc, fun hn => by obtain ⟨b, o, e, hl, hb, hr⟩ := h hn; exact ⟨b, o, e, hl, hb, fun j u hu => (hk _ hl hb).trans (hr j u hu)⟩⟩
theorem Btw.more {w : World} {lo lo' hi hi' : Nat} {v : Value} {xs : List Value} (h : Btw w lo hi v xs) (hl : lo' ≤ lo) (hh : hi ≤ hi') : Btw w lo' hi' v xs := by
  obtain ⟨A, c, e, hc, h⟩ := h
  exact ⟨A, c, e, hc, fun hn => by obtain ⟨b, o, e, hl', hb, hr⟩ := h hn; exact ⟨b, o, e, Nat.le_trans hl hl', Nat.lt_of_lt_of_le hb hh, hr⟩⟩
theorem Btw.rd {w : World} {lo hi : Nat} {v : Value} {xs : List Value} (h : Btw w lo hi v xs) (hh : hi ≤ w.heap.size) : Rd w v xs := Row.more h.row hh
theorem Btw.below {w w' : World} {lo hi : Nat} {v : Value} {xs : List Value} (h : Btw w lo hi v xs) (hb : Below w.heap.size w w') (hh : hi ≤ w.heap.size) : Btw w' lo hi v xs := h.keep fun p _ hp => hb.cell (Nat.lt_of_lt_of_le hp hh)
theorem Btw.alloc {w : World} {lo hi : Nat} {v : Value} {xs : List Value} (h : Btw w lo hi v xs) (hh : hi ≤ w.heap.size) (o : Obj) : Btw (w.alloc o) lo hi v xs := h.keep fun p _ hp => World.cell?_alloc_lt w o p (Nat.lt_of_lt_of_le hp hh)
theorem Btw.set {w : World} {lo hi : Nat} {v : Value} {xs : List Value} (h : Btw w lo hi v xs) {p : Addr} (hp : p.block < lo ∨ hi ≤ p.block) (u : Value) : Btw (w.setCell p u) lo hi v xs :=
  h.keep fun q h1 h2 => World.cell?_setCell_other w p q u (fun e => by subst e; omega)
theorem Dty.btw {w : World} {gr lo : Nat} {v : Value} {ds : List Nat} (h : Dty w gr v ds) (hl : lo ≤ gr) : Btw w (lo + 1) w.heap.size v (u64s ds) := by
  obtain ⟨hlen, hcase⟩ := id h
  rw [Nat.mul_one] at hlen
  rcases hcase with ⟨rfl, h0⟩ | ⟨g, cap, cur, rfl, hg, hh, hn, hcap, hsz, htake⟩
  · have : ds = [] := List.eq_nil_of_length_eq_zero h0
    subst this
    exact ⟨none, 0, rfl, Nat.zero_le _, fun hn => absurd hn (by simp [u64s])⟩
  · refine ⟨_, cap, by rw [hlen], by rw [hlen]; exact hn, fun hpos => ⟨g, 0, rfl, by omega, Blk.lt hh, fun j u hu => ?_⟩⟩
    rw [Nat.zero_add]
    unfold World.cell?
    simp only [hh]
    rw [← htake, Nat.mul_one, List.getElem?_take] at hu
    split at hu
    · simpa using hu
    · cases hu
theorem wp_enters {P : Program} {ops : Array Oper} {Q : Exit → Act → World → Prop} {o : Oper} {a : Act} {w : World} {f : FuncId} {args : Array Value} {i : Nat} {L : Nat → Bool} {V : Nat → Value → Prop} {M : Phases} (hrun : (execOp a.eval o).run P w = .ok (.enter f args) w)
    (hc : Calls P f args w fun e w' => ∃ v, e = .returned v ∧ V i v ∧ M (also L i) (yielding (got ops a) i v) w') :
    o.wp P a w (fun a' w' => ∃ v, a' = a.put o.dst v ∧ V i v ∧ M (also L i) (yielding (got ops a) i v) w') Q := by
  unfold Oper.wp
  rw [hrun, Oper.upon_enter]
  refine hc.mono ?_
  rintro e w' ⟨v, rfl, h⟩
  exact ⟨v, rfl, h⟩
/-- The record's cells on the way. -/
def rcs (k t p s : Int) (b a i : ByteArray) (D : Value) : Array Value := #[.int .i64 k, .int .i64 t, .int .i64 p, .int .i64 s, .string b, .string a, .string i, D]
theorem take_1s {w : World} {lo g : Nat} {s : St} (h : Rdr w lo g s) (hm : s.rest.length ≤ 70368744177664) :
    Calls Try.prog 31 #[ptr g, .int .i64 2] w fun e w' => ∃ A c, e = .returned (.slice A (s.got 2).length c) ∧ Rdr w' lo g (s.take 2) ∧ w.grownBy w' (some g) :=
  (take_told 2 h hm).mono fun _ _ ⟨A, c, h1, _, h3, h4, _⟩ => ⟨A, c, h1, h3, h4⟩
theorem num_1s {w : World} {lo g : Nat} {s : St} (h : Rdr w lo g s) (hm : s.rest.length ≤ 70368744177664) :
    Calls Try.prog 26 #[ptr g, .int .i64 1] w fun e w' => e = .returned (.int .u64 (s.num 1 : Int)) ∧ Rdr w' lo g (s.numSt 1) ∧ w.grownBy w' (some g) := num_any 1 h hm
theorem num_2s {w : World} {lo g : Nat} {s : St} (h : Rdr w lo g s) (hm : s.rest.length ≤ 70368744177664) :
    Calls Try.prog 26 #[ptr g, .int .i64 2] w fun e w' => e = .returned (.int .u64 (s.num 2 : Int)) ∧ Rdr w' lo g (s.numSt 2) ∧ w.grownBy w' (some g) := num_any 2 h hm
end

end Go.Proofs.Ytlplibgcfhamgaa
