/-
  Anew, a crash and an Open in a row; three records in a slice.
-/
import Derived.Test.YtlmoiepbnnfebaaSize
namespace Go.Proofs.Ytlmoiepbnnfebaa
open Go.RowKit
set_option maxRecDepth 20000
set_option linter.unusedSimpArgs false
set_option linter.unusedVariables false

theorem arm0 {w : World} {X : Nat → Prop} {dg g n k gen s : Nat} {up : Bool} {all : List Rc} (h : Live w X dg g 0 n k gen up all s) (z : Int) (hz : z < 9223372036854775808) : Calls Try.prog 25 #[.pointer (some ⟨dg, 0, none⟩), .int .i64 0, .int .i64 z] w fun e w' => e = .returned (.tuple #[]) ∧ Live w' X dg g 0 n k gen false all s ∧ Out X w w' := la_arm (r := 0) h z hz
/-- Behind an Anew that went well, or didn't. -/
structure AftAn (w : World) (X : Nat → Prop) (dg g n k gen : Nat) (all next : List Rc) (ok : Bool) : Prop where
  yes : ok = true → Live w X dg g 0 n k (gen + 1) false next next.length
  no : ok = false → Brok w X dg g 0 n k gen all all.length (some next)
structure AftCr (w : World) (X : Nat → Prop) (dg n k gen : Nat) (all next : List Rc) (ok : Bool) : Prop where
  yes : ok = true → Crd w X dg 0 n k (gen + 1) next next.length none
  no : ok = false → Crd w X dg 0 n k gen all all.length (some next)
section
variable {w w' : World} {X Y Z : Nat → Prop} {dg g n k gen s : Nat} {up : Bool} {all next : List Rc} {ok : Bool} {v : Value}
theorem ban_anew (h : Live w X dg g 0 n k gen false all all.length) (hk : k ≤ 400000) (hg : gen + 1 ≤ 1000000) (hn : next.length ≤ 1000) (hv : RecsAt w Z v next) (hrs : ∀ q ∈ next, q.Ok) (hl : (frsR next).length ≤ 14336) :
    Calls Try.prog 21 #[.pointer (some ⟨g, 0, none⟩), v] w fun e w' => ∃ ok, e = .returned (.int .i64 (cd ok)) ∧ AftAn w' X dg g n (k + 700) gen all next ok ∧ Out X w w' := by
  refine (la_anew h hk hg hn hv hrs hl).mono ?_
  rintro e w' ⟨ok, rfl, _, h2, h3, h4⟩
  exact ⟨ok, rfl, ⟨h2, h3⟩, h4⟩
theorem ban_crash (h : AftAn w X dg g n k gen all next ok) (hk : k ≤ 400000) (mask : Nat) :
    Calls Try.prog 22 #[.pointer (some ⟨dg, 0, none⟩), .int .u64 (mask : Int)] w fun e w' => e = .returned (.tuple #[]) ∧ ∃ Y, (∀ k, X k → Y k) ∧ AftCr w' Y dg n k gen all next ok ∧ Out X w w' := by
  cases ok with
  | true =>
    refine (la_crash (h.yes rfl) hk mask).mono ?_
    rintro e w' ⟨rfl, Y, hY, hc, _, ho⟩
    rw [List.take_length] at hc
    exact ⟨rfl, Y, hY, ⟨fun _ => hc, (fun h => by cases h)⟩, ho⟩
  | false =>
    refine (la_crash_brok (h.no rfl) hk mask).mono ?_
    rintro e w' ⟨rfl, hc, ho⟩
    exact ⟨rfl, X, fun _ h => h, ⟨(fun h => by cases h), fun _ => hc⟩, ho⟩
theorem ban_open (h : AftCr w X dg n k gen all next ok) (hk : k ≤ 400000) :
    Calls Try.prog 23 #[.pointer (some ⟨dg, 0, none⟩), .int .i64 0] w fun e w' => ∃ (g : Nat) (v : Value) (E : Nat → Prop) (got : List Rc) (gen' : Nat), e = .returned (.tuple #[.pointer (some ⟨g, 0, none⟩), v, .int .i64 0]) ∧
      (got = next ∨ (ok = false ∧ got = all)) ∧ gen' ≤ gen + 1 ∧ Live w' (fun k => X k ∨ E k) dg g 0 n (k + 700) gen' true got got.length ∧ EntsAt w' E v gen' got ∧ Out X w w' := by
  cases ok with
  | true =>
    refine (la_open0 (h.yes rfl) hk).mono ?_
    rintro e w' ⟨g, v, E, got, gen', rfl, hw, h1, h2, _, h3⟩
    refine ⟨g, v, E, got, gen', rfl, .inl ?_, ?_, h1, h2, h3⟩
    · rcases hw with ⟨_, j, ha, hb, hc⟩ | ⟨_, hc⟩
      · rw [hc, List.take_of_length_le ha]
      · cases hc
    · rcases hw with ⟨ha, _⟩ | ⟨_, hc⟩
      · omega
      · cases hc
  | false =>
    refine (la_open0 (h.no rfl) hk).mono ?_
    rintro e w' ⟨g, v, E, got, gen', rfl, hw, h1, h2, _, h3⟩
    refine ⟨g, v, E, got, gen', rfl, ?_, ?_, h1, h2, h3⟩
    · rcases hw with ⟨_, j, ha, hb, hc⟩ | ⟨_, hc⟩
      · exact .inr ⟨rfl, by rw [hc, List.take_of_length_le ha]⟩
      · exact .inl (Option.some.inj hc).symm
    · rcases hw with ⟨ha, _⟩ | ⟨ha, _⟩ <;> omega
end
/-- A record told, its numbers in blocks from B on. -/
def Say.rcb (B : Nat) (r : Rc) : Say := ⟨fun w v => ∃ A c, v = .agg #[.int .i64 (r.k : Int), .int .i64 (r.t : Int), .int .i64 (r.p : Int), .int .i64 (r.s : Int), .string r.b, .string r.a, .string r.i, .slice A r.ds.length c] ∧ RIn w (fun k => B ≤ k) (.slice A r.ds.length c) (u64s r.ds), fun _ _ _ ⟨A, c, e, h⟩ hb => ⟨A, c, e, h.keep (fun p hp _ => hb.cell hp) hb.size (fun _ _ h => h)⟩⟩
theorem seed_grb {r : Rc} {x : SeedD} {A : Option Addr} {B n c : Nat} (w : World) (hB : B ≤ w.heap.size) (hn : x.ds.length = n) (hr : seedR x = r) (hv : Rd w (.slice A n c) (u64s x.ds)) :
    Calls Try.prog 16 #[.agg #[.int .i64 x.k, .int .i64 x.t, .int .i64 x.p, .int .i64 x.s, .int .u8 (x.b.toNat : Int), .int .u8 (x.a.toNat : Int), .int .u8 (x.i.toNat : Int), .slice A n c]] w fun e w' => ∃ v, e = .returned v ∧ (Say.rcb B r).p w' v ∧ Below w.heap.size w w' := by
  refine (seed_in x A n c w hn hr hv).mono ?_
  rintro e w' ⟨A, c, rfl, h1, h2⟩
  exact ⟨_, rfl, ⟨A, c, rfl, h1.keep (fun _ _ _ => rfl) (Nat.le_refl _) (fun k _ h => Nat.le_trans hB h.1)⟩, h2⟩
def Say.rec3 (B : Nat) (r q s : Rc) : Say := ⟨fun w v => ∃ A c, v = .slice A 3 c ∧ RecsAt w (fun k => B ≤ k) (.slice A 3 c) [r, q, s], fun _ _ _ ⟨A, c, e, h⟩ hb => ⟨A, c, e, h.below hb⟩⟩
theorem rec3_new {w : World} {B : Nat} {r : Rc} {A A' : Option Addr} {c c' : Nat} (hB : B ≤ w.heap.size) (hD : RIn w (fun k => B ≤ k) (.slice A r.ds.length c) (u64s r.ds)) (hE : RIn w (fun k => B ≤ k) (.slice A' r.ds.length c') (u64s r.ds)) :
    (Say.rec3 B r checkR r).p (w.alloc (.cells #[.int .i64 (r.k : Int), .int .i64 (r.t : Int), .int .i64 (r.p : Int), .int .i64 (r.s : Int), .string r.b, .string r.a, .string r.i, .slice A r.ds.length c, .int .i64 1, .int .i64 0, .int .i64 0, .int .i64 0, .string ⟨#[]⟩, .string ⟨#[]⟩, .string ⟨#[]⟩, .slice none 0 0, .int .i64 (r.k : Int), .int .i64 (r.t : Int), .int .i64 (r.p : Int), .int .i64 (r.s : Int), .string r.b, .string r.a, .string r.i, .slice A' r.ds.length c'] 33)) (.slice (some ⟨w.heap.size, 0, none⟩) 3 3) := by
  have hb := below_new w (.cells #[.int .i64 (r.k : Int), .int .i64 (r.t : Int), .int .i64 (r.p : Int), .int .i64 (r.s : Int), .string r.b, .string r.a, .string r.i, .slice A r.ds.length c, .int .i64 1, .int .i64 0, .int .i64 0, .int .i64 0, .string ⟨#[]⟩, .string ⟨#[]⟩, .string ⟨#[]⟩, .slice none 0 0, .int .i64 (r.k : Int), .int .i64 (r.t : Int), .int .i64 (r.p : Int), .int .i64 (r.s : Int), .string r.b, .string r.a, .string r.i, .slice A' r.ds.length c'] 33)
  have hD' := hD.keep (w' := w.alloc (.cells #[.int .i64 (r.k : Int), .int .i64 (r.t : Int), .int .i64 (r.p : Int), .int .i64 (r.s : Int), .string r.b, .string r.a, .string r.i, .slice A r.ds.length c, .int .i64 1, .int .i64 0, .int .i64 0, .int .i64 0, .string ⟨#[]⟩, .string ⟨#[]⟩, .string ⟨#[]⟩, .slice none 0 0, .int .i64 (r.k : Int), .int .i64 (r.t : Int), .int .i64 (r.p : Int), .int .i64 (r.s : Int), .string r.b, .string r.a, .string r.i, .slice A' r.ds.length c'] 33)) (Y := fun k => B ≤ k) (fun p hp _ => hb.cell hp) hb.size (fun _ _ h => h)
  have hE' := hE.keep (w' := w.alloc (.cells #[.int .i64 (r.k : Int), .int .i64 (r.t : Int), .int .i64 (r.p : Int), .int .i64 (r.s : Int), .string r.b, .string r.a, .string r.i, .slice A r.ds.length c, .int .i64 1, .int .i64 0, .int .i64 0, .int .i64 0, .string ⟨#[]⟩, .string ⟨#[]⟩, .string ⟨#[]⟩, .slice none 0 0, .int .i64 (r.k : Int), .int .i64 (r.t : Int), .int .i64 (r.p : Int), .int .i64 (r.s : Int), .string r.b, .string r.a, .string r.i, .slice A' r.ds.length c'] 33)) (Y := fun k => B ≤ k) (fun p hp _ => hb.cell hp) hb.size (fun _ _ h => h)
  have hK : RIn (w.alloc (.cells #[.int .i64 (r.k : Int), .int .i64 (r.t : Int), .int .i64 (r.p : Int), .int .i64 (r.s : Int), .string r.b, .string r.a, .string r.i, .slice A r.ds.length c, .int .i64 1, .int .i64 0, .int .i64 0, .int .i64 0, .string ⟨#[]⟩, .string ⟨#[]⟩, .string ⟨#[]⟩, .slice none 0 0, .int .i64 (r.k : Int), .int .i64 (r.t : Int), .int .i64 (r.p : Int), .int .i64 (r.s : Int), .string r.b, .string r.a, .string r.i, .slice A' r.ds.length c'] 33)) (fun k => B ≤ k) (.slice none 0 0) (u64s checkR.ds) := rin_nil _ _ _ _
  have hblk := Blk.new_ w #[.int .i64 (r.k : Int), .int .i64 (r.t : Int), .int .i64 (r.p : Int), .int .i64 (r.s : Int), .string r.b, .string r.a, .string r.i, .slice A r.ds.length c, .int .i64 1, .int .i64 0, .int .i64 0, .int .i64 0, .string ⟨#[]⟩, .string ⟨#[]⟩, .string ⟨#[]⟩, .slice none 0 0, .int .i64 (r.k : Int), .int .i64 (r.t : Int), .int .i64 (r.p : Int), .int .i64 (r.s : Int), .string r.b, .string r.a, .string r.i, .slice A' r.ds.length c'] 33 rfl
  refine ⟨_, _, rfl, _, _, rfl, Nat.le_refl _, fun _ => ⟨_, _, rfl, by simp, hB, fun j q hj => ?_⟩⟩
  match j, hj with
  | 0, hj =>
    obtain rfl : r = q := by simpa using hj
    refine ⟨_, fun i u hu => ?_, hD'⟩
    rw [Nat.zero_mul, Nat.zero_add]
    refine hblk.cell _ u ?_
    match i, hu with
    | 0, hu | 1, hu | 2, hu | 3, hu | 4, hu | 5, hu | 6, hu | 7, hu => exact hu
    | i + 8, hu => simp [rcv] at hu
  | 1, hj =>
    obtain rfl : checkR = q := by simpa using hj
    refine ⟨_, fun i u hu => ?_, hK⟩
    rw [Nat.one_mul, Nat.zero_add]
    refine hblk.cell _ u ?_
    match i, hu with
    | 0, hu | 1, hu | 2, hu | 3, hu | 4, hu | 5, hu | 6, hu | 7, hu => exact hu
    | i + 8, hu => simp [rcv] at hu
  | 2, hj =>
    obtain rfl : r = q := by simpa using hj
    refine ⟨_, fun i u hu => ?_, hE'⟩
    rw [Nat.zero_add]
    refine hblk.cell _ u ?_
    match i, hu with
    | 0, hu | 1, hu | 2, hu | 3, hu | 4, hu | 5, hu | 6, hu | 7, hu => exact hu
    | i + 8, hu => simp [rcv] at hu
  | j + 3, hj => simp at hj
end Go.Proofs.Ytlmoiepbnnfebaa
