/-
  What the statements of stage 6 walk over: a seed's record in a block; the contracts on it.
-/
import Derived.Test.YtofnldmbokdkbaaSeed
import Derived.Test.YtofnldmbokdkbaaFrame
import Derived.Test.YtofnldmbokdkbaaFit
import Derived.Test.YtofnldmbokdkbaaGrow
namespace Go.Proofs.Ytofnldmbokdkbaa
open Go.RowKit

set_option linter.unusedSimpArgs false
set_option linter.unusedVariables false

theorem seedR_ok (x : SeedD) (hu : ∀ y ∈ x.ds, y < 18446744073709551616) : (seedR x).Ok := by
  have hk := sK_ok x.k
  have ht := sT_ok x.t
  have hp := sP_ok x.p
  have hs := sS_ok x.s
  refine ⟨⟨hk.1, hk.2.1⟩, ht.1, hp.1, hs.1, cellB_size _, cellB_size _, imgB_size _, ?_, ?_⟩
  · unfold seedR
    dsimp only
    split
    · rename_i h
      exact .inr ⟨h.1, by rw [List.length_take, List.length_append, List.length_replicate]; omega⟩
    · exact .inl rfl
  · unfold seedR
    dsimp only
    split
    · intro y hy
      have := List.mem_of_mem_take hy
      rw [List.mem_append] at this
      rcases this with h | h
      · exact hu y h
      · rw [List.mem_replicate] at h
        omega
    · intro y hy; cases hy
/-- Record of a seed, some record that may be. -/
theorem seed_told (x : SeedD) (A : Option Addr) (n c : Nat) (w : World) (hn : x.ds.length = n) (hu : ∀ y ∈ x.ds, y < 18446744073709551616) (hv : Rd w (.slice A n c) (u64s x.ds)) :
    Calls Try.prog 11 #[.agg #[.int .i64 x.k, .int .i64 x.t, .int .i64 x.p, .int .i64 x.s, .int .u8 (x.b.toNat : Int), .int .u8 (x.a.toNat : Int), .int .u8 (x.i.toNat : Int), .slice A n c]] w fun e w' => ∃ (r : Rc) (A : Option Addr) (c : Nat), e = .returned (.agg #[.int .i64 (r.k : Int), .int .i64 (r.t : Int), .int .i64 (r.p : Int), .int .i64 (r.s : Int), .string r.b, .string r.a, .string r.i, .slice A r.ds.length c]) ∧ r.Ok ∧ Btw w' w.heap.size w'.heap.size (.slice A r.ds.length c) (u64s r.ds) ∧ Below w.heap.size w w' := by
  refine (seed_any x A n c w hn hv).mono ?_
  rintro e w' ⟨A, c, rfl, h1, h2⟩
  exact ⟨seedR x, A, c, rfl, seedR_ok x hu, h1, h2⟩
/-- A record in a block of the call's own. -/
structure Has (w0 w : World) (g : Nat) (r : Rc) (A : Option Addr) (c : Nat) : Prop where
  bel : Below w0.heap.size w0 w
  box : Blk w g 28 #[.int .i64 (r.k : Int), .int .i64 (r.t : Int), .int .i64 (r.p : Int), .int .i64 (r.s : Int), .string r.b, .string r.a, .string r.i, .slice A r.ds.length c]
  rd : Rd w (.slice A r.ds.length c) (u64s r.ds)
  own : w0.heap.size ≤ g
section
variable {w0 w w' : World} {g : Nat} {r : Rc} {A : Option Addr} {c : Nat}
theorem Has.below (h : Has w0 w g r A c) (hb : Below w.heap.size w w') : Has w0 w' g r A c := ⟨h.bel.trans (hb.mono h.bel.size), h.box.below hb, h.rd.below hb, h.own⟩
theorem Has.new_ (hb : Below w0.heap.size w0 w) (h : Rd w (.slice A r.ds.length c) (u64s r.ds)) : Has w0 (w.alloc (.cells #[.int .i64 (r.k : Int), .int .i64 (r.t : Int), .int .i64 (r.p : Int), .int .i64 (r.s : Int), .string r.b, .string r.a, .string r.i, .slice A r.ds.length c] 28)) w.heap.size r A c :=
  ⟨hb.alloc hb.size _, heap_new w _, h.alloc _, hb.size⟩
theorem Has.cells (h : Has w0 w g r A c) : w.cell? ⟨g, 0, none⟩ = some (.int .i64 (r.k : Int)) ∧ w.cell? ⟨g, 1, none⟩ = some (.int .i64 (r.t : Int)) ∧ w.cell? ⟨g, 2, none⟩ = some (.int .i64 (r.p : Int)) ∧ w.cell? ⟨g, 3, none⟩ = some (.int .i64 (r.s : Int)) ∧
    w.cell? ⟨g, 4, none⟩ = some (.string r.b) ∧ w.cell? ⟨g, 5, none⟩ = some (.string r.a) ∧ w.cell? ⟨g, 6, none⟩ = some (.string r.i) ∧ w.cell? ⟨g, 7, none⟩ = some (.slice A r.ds.length c) :=
  ⟨h.box.cell 0 _ rfl, h.box.cell 1 _ rfl, h.box.cell 2 _ rfl, h.box.cell 3 _ rfl, h.box.cell 4 _ rfl, h.box.cell 5 _ rfl, h.box.cell 6 _ rfl, h.box.cell 7 _ rfl⟩
theorem Has.lt (h : Has w0 w g r A c) : g < w.heap.size := h.box.lt
end
/-- A seed in a box, the first block of the walk's own. -/
structure Sbx (w0 w : World) (x : SeedD) (A : Option Addr) (n c : Nat) : Prop where
  bel : Below w0.heap.size w0 w
  box : Blk w w0.heap.size 24 #[.int .i64 x.k, .int .i64 x.t, .int .i64 x.p, .int .i64 x.s, .int .u8 (x.b.toNat : Int), .int .u8 (x.a.toNat : Int), .int .u8 (x.i.toNat : Int), .slice A n c]
  row : Row w w0.heap.size (.slice A n c) (u64s x.ds)
section
variable {w0 w w' : World} {x : SeedD} {A : Option Addr} {n c : Nat}
theorem Sbx.new_ (h : Row w w.heap.size (.slice A n c) (u64s x.ds)) : Sbx w (w.alloc (.cells #[.int .i64 x.k, .int .i64 x.t, .int .i64 x.p, .int .i64 x.s, .int .u8 (x.b.toNat : Int), .int .u8 (x.a.toNat : Int), .int .u8 (x.i.toNat : Int), .slice A n c] 24)) x A n c :=
  ⟨(Below.refl _ _).alloc (Nat.le_refl _) _, heap_new w _, h.alloc (Nat.le_refl _) _⟩
theorem Sbx.below (h : Sbx w0 w x A n c) (hb : Below w.heap.size w w') : Sbx w0 w' x A n c := ⟨h.bel.trans (hb.mono h.bel.size), h.box.below hb, h.row.below (hb.mono h.bel.size)⟩
theorem Sbx.rd (h : Sbx w0 w x A n c) : Rd w (.slice A n c) (u64s x.ds) := h.row.more h.bel.size
theorem Sbx.cells (h : Sbx w0 w x A n c) : w.cell? ⟨w0.heap.size, 0, none⟩ = some (.int .i64 x.k) ∧ w.cell? ⟨w0.heap.size, 1, none⟩ = some (.int .i64 x.t) ∧ w.cell? ⟨w0.heap.size, 2, none⟩ = some (.int .i64 x.p) ∧ w.cell? ⟨w0.heap.size, 3, none⟩ = some (.int .i64 x.s) ∧
    w.cell? ⟨w0.heap.size, 4, none⟩ = some (.int .u8 (x.b.toNat : Int)) ∧ w.cell? ⟨w0.heap.size, 5, none⟩ = some (.int .u8 (x.a.toNat : Int)) ∧ w.cell? ⟨w0.heap.size, 6, none⟩ = some (.int .u8 (x.i.toNat : Int)) ∧ w.cell? ⟨w0.heap.size, 7, none⟩ = some (.slice A n c) :=
  ⟨h.box.cell 0 _ rfl, h.box.cell 1 _ rfl, h.box.cell 2 _ rfl, h.box.cell 3 _ rfl, h.box.cell 4 _ rfl, h.box.cell 5 _ rfl, h.box.cell 6 _ rfl, h.box.cell 7 _ rfl⟩
end
/-- Encode, told with its length. -/
theorem enc_told (r : Rc) (A : Option Addr) (c : Nat) (w : World) (h : r.Ok) (hv : Rd w (.slice A r.ds.length c) (u64s r.ds)) :
    Calls Try.prog 12 #[.agg #[.int .i64 (r.k : Int), .int .i64 (r.t : Int), .int .i64 (r.p : Int), .int .i64 (r.s : Int), .string r.b, .string r.a, .string r.i, .slice A r.ds.length c]] w fun e w' => ∃ A c, e = .returned (.slice A r.frame.length c) ∧ Mine w' w.heap.size (.slice A r.frame.length c) r.frame ∧ Below w.heap.size w w' := by
  refine (encode_ok r A c w h hv).mono ?_
  rintro e w' ⟨v', rfl, hm, hb⟩
  obtain ⟨A', c', rfl⟩ := hm.form
  exact ⟨A', c', rfl, hm, hb⟩
/-- The contracts as words on values. -/
theorem frame_grow {r : Rc} {A : Option Addr} {c : Nat} (w : World) (h : r.Ok) (hv : Rd w (.slice A r.ds.length c) (u64s r.ds)) :
    Calls Try.prog 15 #[.agg #[.int .i64 (r.k : Int), .int .i64 (r.t : Int), .int .i64 (r.p : Int), .int .i64 (r.s : Int), .string r.b, .string r.a, .string r.i, .slice A r.ds.length c]] w fun e w' => ∃ v, e = .returned v ∧ (Say.rd r.frame.length r.frame).p w' v ∧ Below w.heap.size w w' := by
  refine (frame_any r A c w h hv).mono ?_
  rintro e w' ⟨v', rfl, hm, hb⟩
  obtain ⟨A', c', rfl⟩ := hm.form
  exact ⟨_, rfl, ⟨A', c', rfl, hm.rd⟩, hb⟩
theorem same_grow {r q : Rc} {A B : Option Addr} {c d : Nat} (w : World) (h : r.Ok) (hv : Rd w (.slice A r.ds.length c) (u64s r.ds)) (hu : Rd w (.slice B q.ds.length d) (u64s q.ds)) :
    Calls Try.prog 16 #[.agg #[.int .i64 (r.k : Int), .int .i64 (r.t : Int), .int .i64 (r.p : Int), .int .i64 (r.s : Int), .string r.b, .string r.a, .string r.i, .slice A r.ds.length c], .agg #[.int .i64 (q.k : Int), .int .i64 (q.t : Int), .int .i64 (q.p : Int), .int .i64 (q.s : Int), .string q.b, .string q.a, .string q.i, .slice B q.ds.length d]] w fun e w' => ∃ v, e = .returned v ∧ (Say.is (.bool (sameB r q))).p w' v ∧ Below w.heap.size w w' := by
  refine (same_any r q A B c d w (by have := h.d; omega) hv hu).mono ?_
  rintro e w' ⟨rfl, hb⟩
  exact ⟨_, rfl, rfl, hb⟩
theorem same_self (r : Rc) : sameB r r = true := (sameB_iff r r).2 rfl
theorem right_grow1 {r : Rc} {A : Option Addr} {c : Nat} (w : World) (h : r.Ok) :
    Calls Try.prog 14 #[.agg #[.int .i64 (r.k : Int), .int .i64 (r.t : Int), .int .i64 (r.p : Int), .int .i64 (r.s : Int), .string r.b, .string r.a, .string r.i, .slice A r.ds.length c]] w fun e w' => ∃ v, e = .returned v ∧ (Say.is (.bool true)).p w' v ∧ Below w.heap.size w w' := by
  refine (right_any (r.k : Int) r.t r.p r.s r.b r.a r.i A r.ds.length c w).mono ?_
  rw [h.rightB]
  rintro e w' ⟨rfl, hb⟩
  exact ⟨_, rfl, rfl, hb⟩
theorem below_nil {w w' : World} {n c : Nat} (h : w.grownBy w' (Value.slice none n c).ownBlock) : Below w.heap.size w w' := (Below.refl _ _).grown h (Nat.le_refl _) (fun k hk => by cases hk)
theorem mine_nil {w' : World} {base : Nat} {v' : Value} {m : List UInt8} (h : w'.ownsRow base 5 1 v' (0 + (u8s m).length) ([] ++ u8s m)) : Mine w' base v' m := by
  unfold Mine
  rw [Nat.zero_add, u8s_length, List.nil_append] at h
  exact h
theorem own_new {v : Value} {n c B : Nat} (h : v.ownBlock = (Value.slice none n c).ownBlock ∨ v.ownBlock = some B) : ∀ k, v.ownBlock = some k → B ≤ k := by
  intro k hk
  rcases h with h | h
  · rw [h] at hk; cases hk
  · rw [h] at hk; injection hk with hk; omega
/-- Decode where a record's frame begins. -/
theorem decode_frame {r : Rc} {v : Value} {l m : List UInt8} {W : World} (ho : r.Ok) (hl : l = r.frame ++ m) (hm : m.length ≤ 1000000) (hv : Rd W v (u8s l)) :
    Calls Try.prog 13 #[v] W fun e w' => ∃ A c, e = .returned (.tuple #[.agg #[.int .i64 (r.k : Int), .int .i64 (r.t : Int), .int .i64 (r.p : Int), .int .i64 (r.s : Int), .string r.b, .string r.a, .string r.i, .slice A r.ds.length c], .int .i64 (r.frame.length : Int), .bool true]) ∧
      Rd w' (.slice A r.ds.length c) (u64s r.ds) ∧ Below W.heap.size W w' := by
  have hp : r.frame <+: l := by rw [hl]; exact List.prefix_append _ _
  exact decode_yes (by rw [hl, List.length_append]; have := ho.most; omega) hv (readR_of ho hp) ho hp
theorem same_grow1 {r : Rc} {A B : Option Addr} {c d : Nat} (w : World) (h : r.Ok) (hv : Rd w (.slice A r.ds.length c) (u64s r.ds)) (hu : Rd w (.slice B r.ds.length d) (u64s r.ds)) :
    Calls Try.prog 16 #[.agg #[.int .i64 (r.k : Int), .int .i64 (r.t : Int), .int .i64 (r.p : Int), .int .i64 (r.s : Int), .string r.b, .string r.a, .string r.i, .slice A r.ds.length c], .agg #[.int .i64 (r.k : Int), .int .i64 (r.t : Int), .int .i64 (r.p : Int), .int .i64 (r.s : Int), .string r.b, .string r.a, .string r.i, .slice B r.ds.length d]] w fun e w' => ∃ v, e = .returned v ∧ (Say.is (.bool true)).p w' v ∧ Below w.heap.size w w' := by
  have := same_grow w h hv hu
  rwa [same_self] at this
/-- Where a row of one's own lies. -/
theorem mine_at {w : World} {base n c : Nat} {A : Option Addr} {l : List UInt8} (h : Mine w base (.slice A n c) l) (hn : 0 < n) : ∃ g, A = some ⟨g, 0, none⟩ ∧ base ≤ g ∧ g < w.heap.size ∧ l.length = n ∧ n ≤ c ∧ ∀ j x, l[j]? = some x → w.cell? ⟨g, j, none⟩ = some (.int .u8 (x.toNat : Int)) := by
  rcases id h.2 with ⟨e, _⟩ | ⟨g, cap, cur, e, hbg, hg, hnc, hcm, hcs, htake⟩
  · injection e with e1 e2 e3
    omega
  · injection e with e1 e2 e3
    refine ⟨g, e1, hbg, Blk.lt hg, e2.symm, by omega, fun j x hx => ?_⟩
    have hj := (List.getElem?_eq_some_iff.1 hx).1
    have hu := u8s_get l j hj
    rw [Nat.mul_one] at htake
    rw [← htake, List.getElem?_take, if_pos hj] at hu
    have hx2 := (List.getElem?_eq_some_iff.1 hx).2
    rw [hx2] at hu
    unfold World.cell?
    simp only [hg]
    simpa using hu
theorem frame_head (r : Rc) : r.frame = UInt8.ofNat (r.said.length / 256) :: UInt8.ofNat r.said.length :: r.said := by
  rw [Rc.frame]
  simp [be]
theorem or_bytes (a b : Nat) (hb : b < 256) (ha : a < 256) : bits .or .i64 ((a : Int) * 256) (b : Int) = ((a * 256 + b : Nat) : Int) := by
  have h2 : bits .or .i64 ((a : Int) * 256) (b : Int) = IntKind.i64.wrap (((BitVec.ofInt 64 ((a : Int) * 256) ||| BitVec.ofInt 64 (b : Int)).toNat : Int)) := rfl
  have h3 : (BitVec.ofInt 64 ((a : Int) * 256)).toNat = a * 256 := by rw [BitVec.toNat_ofInt]; omega
  have h4 : (BitVec.ofInt 64 (b : Int)).toNat = b := by rw [BitVec.toNat_ofInt]; omega
  have h5 : a * 256 ||| b = a * 256 + b := by
    have := Nat.shiftLeft_add_eq_or_of_lt (i := 8) (b := b) (by omega) a
    rw [Nat.shiftLeft_eq] at this
    exact this.symm
  rw [h2, BitVec.toNat_or, h3, h4, h5, IntKind.wrap_i64]
  omega
end Go.Proofs.Ytofnldmbokdkbaa
