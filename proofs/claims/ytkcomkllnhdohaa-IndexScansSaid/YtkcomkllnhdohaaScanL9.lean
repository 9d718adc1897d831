/-
  What a scan hands out, as those of the list that lie between; two scans that meet.
-/
import Derived.Test.YtkcomkllnhdohaaAppIn9
namespace Go.Proofs.Ytkcomkllnhdohaa
open Go.RowKit
set_option linter.unusedSimpArgs false
set_option linter.unusedVariables false

theorem filter_none {p : It → Bool} {l : List It} (h : ∀ a ∈ l, p a = false) : l.filter p = [] := List.filter_eq_nil_iff.2 (fun a ha => by rw [h a ha]; decide)
theorem filter_all {p : It → Bool} {l : List It} (h : ∀ a ∈ l, p a = true) : l.filter p = l := List.filter_eq_self.2 h
theorem scanL_filter {lo hi : It} {xs : List It} (hs : Srt xs) : scanL lo hi xs = xs.filter (fun a => !itB a lo && !itB hi a) := by
  obtain ⟨l1, l2⟩ := cnt_split (itB_ge_mono hs lo)
  obtain ⟨h1, h2⟩ := cnt_split (itB_gt_mono hs hi)
  unfold scanL cutL endL posL
  generalize cnt (fun a => !itB a lo) xs = p at *
  generalize cnt (fun a => itB hi a) xs = e at *
  have d1 : xs = xs.take e ++ xs.drop e := (List.take_append_drop e xs).symm
  have d2 : xs.take e = (xs.take e).take p ++ (xs.take e).drop p := (List.take_append_drop p _).symm
  conv => rhs; rw [d1]
  rw [List.filter_append, filter_none (l := xs.drop e) (fun a ha => by simp [h2 a ha]), List.append_nil]
  conv => rhs; rw [d2]
  rw [List.filter_append, filter_none (l := (xs.take e).take p) (fun a ha => ?_), List.nil_append, filter_all (fun a ha => ?_)]
  · have m1 : a ∈ xs.take e := List.mem_of_mem_drop ha
    have m2 : a ∈ xs.drop p := by
      rw [List.drop_take] at ha
      exact List.mem_of_mem_take ha
    have e1 : itB hi a = false := h1 a m1
    have e2 : (!itB a lo) = true := l2 a m2
    rw [e1, e2]
    rfl
  · have m1 : a ∈ xs.take p := by
      rw [List.take_take] at ha
      exact List.mem_of_mem_take (show a ∈ (xs.take p).take e from by rw [List.take_take, Nat.min_comm]; exact ha)
    have e2 : (!itB a lo) = false := l1 a m1
    rw [e2]
    rfl
theorem filter_split {p q r : It → Bool} : ∀ {xs : List It}, (xs.Pairwise fun a b => q a = true → p b = false) → (∀ a, r a = (p a || q a)) → (∀ a, p a = true → q a = false) → xs.filter r = xs.filter p ++ xs.filter q
  | [], _, _, _ => rfl
  | a :: xs, h, hr, hx => by
    have ih := filter_split (List.pairwise_cons.1 h).2 hr hx
    have hr' := hr a
    cases hp : p a
    · cases hq : q a
      · rw [hp, hq] at hr'
        simp only [List.filter_cons, hr', hp, hq, Bool.or_false, Bool.false_eq_true, if_false]
        exact ih
      · rw [hp, hq] at hr'
        have hn : xs.filter p = [] := filter_none (fun b hb => (List.pairwise_cons.1 h).1 b hb hq)
        rw [hn] at ih
        simp only [List.filter_cons, hr', hp, hq, Bool.false_or, Bool.false_eq_true, if_false, if_true, hn, List.nil_append]
        rw [ih, List.nil_append]
    · have hq := hx a hp
      rw [hp, hq] at hr'
      simp only [List.filter_cons, hr', hp, hq, Bool.or_false, Bool.false_eq_true, if_false, if_true, List.cons_append]
      rw [ih]
/-! Behind a string comes that string and a zero. -/
theorem bl_zero : ∀ (m k : List UInt8), Op.bytesLess k (m ++ [0]) = true ↔ Op.bytesLess m k = false
  | [], [] => by decide
  | [], b :: k => by
    constructor
    · intro h
      rw [List.nil_append, bl_cons] at h
      rcases h with h | ⟨_, h⟩
      · have : (0 : UInt8).toNat = 0 := rfl
        omega
      · cases k <;> cases h
    · intro h
      cases h
  | a :: m, [] => by
    constructor
    · intro _
      rfl
    · intro _
      rfl
  | a :: m, b :: k => by
    rw [List.cons_append, bl_cons]
    have ih := bl_zero m k
    rw [ih]
    constructor
    · intro h
      cases e : Op.bytesLess (a :: m) (b :: k) with
      | false => rfl
      | true =>
        rw [bl_cons] at e
        rcases h with h | ⟨h1, h2⟩
        · rcases e with e | ⟨e1, _⟩
          · omega
          · rw [e1] at h
            omega
        · rcases e with e | ⟨_, e2⟩
          · rw [h1] at e
            omega
          · rw [h2] at e2
            cases e2
    · intro h
      rcases Nat.lt_trichotomy b.toNat a.toNat with h1 | h1 | h1
      · exact .inl h1
      · have hab : b = a := UInt8.toNat_inj.1 h1
        refine .inr ⟨hab, ?_⟩
        cases e : Op.bytesLess m k with
        | false => rfl
        | true =>
          have : Op.bytesLess (a :: m) (b :: k) = true := bl_cons.2 (.inr ⟨hab.symm, e⟩)
          rw [this] at h
          cases h
      · have : Op.bytesLess (a :: m) (b :: k) = true := bl_cons.2 (.inl h1)
        rw [this] at h
        cases h
theorem bl_more : ∀ (m : List UInt8) (u : List UInt8), u ≠ [] → Op.bytesLess m (m ++ u) = true
  | [], [], h => absurd rfl h
  | [], b :: u, _ => rfl
  | a :: m, u, h => by
    rw [List.cons_append, bl_cons]
    exact .inr ⟨rfl, bl_more m u h⟩
theorem bl_asym {a b : List UInt8} (h : Op.bytesLess a b = true) : Op.bytesLess b a = false := by
  cases e : Op.bytesLess b a with
  | false => rfl
  | true =>
    have := bl_trans _ _ _ h e
    rw [bl_irrefl] at this
    cases this
theorem bl_ge_trans {a b c : List UInt8} (h1 : Op.bytesLess a b = true) (h2 : Op.bytesLess c b = false) : Op.bytesLess a c = true := by
  rcases bl_total b c with e | e | e
  · rw [← e]; exact h1
  · exact bl_trans _ _ _ h1 e
  · rw [e] at h2; cases h2
theorem itB_at {a : It} {t : Int} {k : ByteArray} : itB a (sought t k) = true ↔ a.t < t ∨ a.t = t ∧ Op.bytesLess a.key.toList k.toList = true := itB_iff
theorem at_itB {a : It} {t : Int} {k : ByteArray} : itB (sought t k) a = true ↔ t < a.t ∨ t = a.t ∧ Op.bytesLess k.toList a.key.toList = true := itB_iff
theorem between {a : It} {t : Int} {lo hi : ByteArray} : (!itB a (sought t lo) && !itB (sought t hi) a) = true ↔ a.t = t ∧ Op.bytesLess a.key.toList lo.toList = false ∧ Op.bytesLess hi.toList a.key.toList = false := by
  rw [Bool.and_eq_true, Bool.not_eq_true', Bool.not_eq_true', ← Bool.not_eq_true, ← Bool.not_eq_true, itB_at, at_itB, ← Bool.not_eq_true, ← Bool.not_eq_true]
  constructor
  · rintro ⟨h1, h2⟩
    have e : a.t = t := by
      rcases Int.lt_trichotomy a.t t with h | h | h
      · exact absurd (.inl h) h1
      · exact h
      · exact absurd (.inl h) h2
    exact ⟨e, fun h => h1 (.inr ⟨e, h⟩), fun h => h2 (.inr ⟨e.symm, h⟩)⟩
  · rintro ⟨h1, h2, h3⟩
    refine ⟨?_, ?_⟩
    · rintro (h | ⟨_, h⟩)
      · omega
      · exact h2 h
    · rintro (h | ⟨_, h⟩)
      · omega
      · exact h3 h
theorem toList_app (a b : ByteArray) : (a ++ b).toList = a.toList ++ b.toList := by
  rw [Lib.toList_data, Lib.toList_data, Lib.toList_data, ByteArray.data_append, Array.toList_append]
def ff2 : ByteArray := ⟨#[255, 255]⟩
def ff4 : ByteArray := ⟨#[255, 255, 255, 255]⟩
theorem parts_join {xs : List It} (hs : Srt xs) (t : Int) (mid : ByteArray) (hm : Op.bytesLess ff2.toList mid.toList = false) :
    scanL (sought t ⟨#[]⟩) (sought t mid) xs ++ scanL (sought t (mid ++ ⟨#[0]⟩)) (sought t ff4) xs = scanL (sought t ⟨#[]⟩) (sought t ff4) xs := by
  rw [scanL_filter hs, scanL_filter hs, scanL_filter hs]
  have z0 : (⟨#[0]⟩ : ByteArray).toList = [0] := by rw [Lib.toList_data]
  have zn : (⟨#[]⟩ : ByteArray).toList = [] := by rw [Lib.toList_data]
  have f2 : ff2.toList = [255, 255] := by rw [Lib.toList_data]; rfl
  have f4 : ff4.toList = [255, 255] ++ [255, 255] := by rw [Lib.toList_data]; rfl
  have nn : ∀ k : List UInt8, Op.bytesLess k [] = false := fun k => by cases k <;> rfl
  have far : ∀ k : List UInt8, Op.bytesLess mid.toList k = false → Op.bytesLess ff4.toList k = false := by
    intro k hk
    cases e : Op.bytesLess ff4.toList k with
    | false => rfl
    | true =>
      have h1 : Op.bytesLess ff2.toList ff4.toList = true := by rw [f2, f4]; exact bl_more _ _ (by decide)
      have h2 := bl_trans _ _ _ h1 e
      have h3 := bl_ge_trans h2 hk
      rw [hm] at h3
      cases h3
  have ne : ∀ x : Bool, ∀ P : Prop, (x = true ↔ P) → ¬ P → x = false := fun x P h hn => by cases x; rfl; exact absurd (h.1 rfl) hn
  refine (filter_split ?_ ?_ ?_).symm
  · refine hs.imp (fun {a b} hab hq => ?_)
    obtain ⟨h1, h2, h3⟩ := between.1 hq
    refine ne _ _ between (fun hp => ?_)
    obtain ⟨h4, h5, h6⟩ := hp
    rw [toList_app, z0] at h2
    have h7 : Op.bytesLess mid.toList a.key.toList = true := by
      cases e : Op.bytesLess mid.toList a.key.toList with
      | true => rfl
      | false => rw [(bl_zero _ _).2 e] at h2; cases h2
    have h8 : Op.bytesLess a.key.toList b.key.toList = true := by
      rcases itB_iff.1 hab with h | ⟨_, h⟩
      · omega
      · exact h
    rw [bl_trans _ _ _ h7 h8] at h6
    cases h6
  · intro a
    rw [Bool.eq_iff_iff, Bool.or_eq_true, between, between, between, zn, toList_app, z0, nn]
    constructor
    · rintro ⟨h1, _, h3⟩
      cases e : Op.bytesLess mid.toList a.key.toList with
      | false => exact .inl ⟨h1, rfl, rfl⟩
      | true =>
        refine .inr ⟨h1, ?_, h3⟩
        cases e2 : Op.bytesLess a.key.toList (mid.toList ++ [0]) with
        | false => rfl
        | true => rw [(bl_zero _ _).1 e2] at e; cases e
    · rintro (⟨h1, _, h3⟩ | ⟨h1, _, h3⟩)
      · exact ⟨h1, rfl, far _ h3⟩
      · exact ⟨h1, rfl, h3⟩
  · intro a hp
    obtain ⟨h1, h2, h3⟩ := between.1 hp
    refine ne _ _ between (fun hq => ?_)
    obtain ⟨_, h5, _⟩ := hq
    rw [toList_app, z0, (bl_zero _ _).2 h3] at h5
    cases h5
theorem parts_none {xs : List It} (hs : Srt xs) (t : Int) (mid : ByteArray) : scanL (sought t (mid ++ ⟨#[97]⟩)) (sought t mid) xs = [] := by
  rw [scanL_filter hs]
  refine filter_none (fun a _ => ?_)
  cases e : (!itB a (sought t (mid ++ ⟨#[97]⟩)) && !itB (sought t mid) a) with
  | false => rfl
  | true =>
    obtain ⟨_, h2, h3⟩ := between.1 e
    have z : (⟨#[97]⟩ : ByteArray).toList = [97] := by rw [Lib.toList_data]
    rw [toList_app, z] at h2
    have h1 := bl_more mid.toList [97] (by decide)
    have h4 : Op.bytesLess a.key.toList (mid.toList ++ [97]) = true := by
      rcases bl_total a.key.toList (mid.toList ++ [97]) with h | h | h
      · rw [h] at h3; rw [h1] at h3; cases h3
      · exact h
      · rw [bl_trans _ _ _ h1 h] at h3; cases h3
    rw [h4] at h2
    cases h2
theorem gt_form {mid : ByteArray} : (!Op.bytesLess mid.toList [255, 255] && !mid.toList == [255, 255]) = Op.bytesLess ff2.toList mid.toList := by
  have f2 : ff2.toList = [255, 255] := by rw [Lib.toList_data]; rfl
  rw [f2]
  rcases bl_total mid.toList [255, 255] with h | h | h
  · rw [h]; rfl
  · rw [h, bl_asym h]; rfl
  · have h2 := bl_asym h
    have h3 : (mid.toList == [255, 255]) = false := by
      rw [beq_eq_false_iff_ne]
      intro e
      rw [e, bl_irrefl] at h
      cases h
    rw [h, h2, h3]
    rfl
theorem scanL_length (lo hi : It) (xs : List It) : (scanL lo hi xs).length ≤ xs.length := by
  unfold scanL cutL
  rw [List.length_drop, List.length_take]
  omega
/-- A row of the table, between both keys. -/
def pB (t : Int) (a b : ByteArray) (y : It) : Bool := (y.t == t) && !Op.bytesLess y.key.toList a.toList && !Op.bytesLess b.toList y.key.toList
theorem scan_p {xs : List It} (hs : Srt xs) (t : Int) (a b : ByteArray) : scanL (sought t a) (sought t b) xs = xs.filter (pB t a b) := by
  rw [scanL_filter hs]
  congr 1
  funext y
  rw [Bool.eq_iff_iff, between]
  unfold pB
  rw [Bool.and_eq_true, Bool.and_eq_true, Bool.not_eq_true', Bool.not_eq_true', beq_iff_eq, and_assoc]
theorem le_form {a b : ByteArray} : (Op.bytesLess a.toList b.toList || a.toList == b.toList) = !Op.bytesLess b.toList a.toList := by
  rcases bl_total a.toList b.toList with h | h | h
  · rw [h, bl_irrefl]; simp
  · rw [h, bl_asym h]; rfl
  · have h3 : (a.toList == b.toList) = false := by
      rw [beq_eq_false_iff_ne]
      intro e
      rw [e, bl_irrefl] at h
      cases h
    rw [h, bl_asym h, h3]; rfl
theorem take_one {xs : List It} {j : Nat} {y : It} (h : xs[j]? = some y) (p : It → Bool) : (xs.take (j + 1)).filter p = (xs.take j).filter p ++ (if p y then [y] else []) := by
  rw [List.take_add_one, h, List.filter_append]
  congr 1
  cases e : p y <;> simp [e]
theorem few_no {xs : List It} {j ms : Nat} {y : It} (h : xs[j]? = some y) {p : It → Bool} (hp : p y = false) : ((xs.take (j + 1)).filter p).take ms = ((xs.take j).filter p).take ms := by
  rw [take_one h, hp]; simp
theorem few_full {xs : List It} {j ms : Nat} {y : It} (h : xs[j]? = some y) {p : It → Bool} (hm : ¬ (((xs.take j).filter p).take ms).length < ms) : ((xs.take (j + 1)).filter p).take ms = ((xs.take j).filter p).take ms := by
  rw [take_one h, List.take_append_of_le_length]
  rw [List.length_take] at hm
  omega
theorem few_more {xs : List It} {j ms : Nat} {y : It} (h : xs[j]? = some y) {p : It → Bool} (hp : p y = true) (hm : (((xs.take j).filter p).take ms).length < ms) : ((xs.take (j + 1)).filter p).take ms = ((xs.take j).filter p).take ms ++ [y] := by
  rw [List.length_take] at hm
  have h1 : ((xs.take j).filter p).length < ms := by omega
  rw [take_one h, hp, List.take_of_length_le (l := (xs.take j).filter p) (by omega), List.take_of_length_le (by rw [List.length_append]; simp; omega)]
  rfl
end Go.Proofs.Ytkcomkllnhdohaa
