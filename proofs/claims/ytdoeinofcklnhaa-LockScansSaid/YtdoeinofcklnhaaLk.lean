/-
  Locks in memory: who holds what, as a function; package lock's has, lets, whole, Len, New.
-/
import Derived.Test.YtdoeinofcklnhaaThing
namespace Go.Proofs.Ytdoeinofcklnhaa
open Go.RowKit
set_option maxRecDepth 20000
set_option linter.unusedSimpArgs false
set_option linter.unusedVariables false

/-- A hold: a mode, and its owners. -/
structure Ho where
  m : Int
  o : Int → Bool
/-- The owners as a map has them. -/
def own1 (o : Int → Bool) (i : Int) : Option Unit := if o i then some () else none
theorem own1_some {o : Int → Bool} {i : Int} : (own1 o i).isSome = o i := by
  unfold own1
  cases o i <;> rfl
theorem own1_put (o : Int → Bool) (who : Int) : (fun t => if t = who then some () else own1 o t) = own1 (fun t => decide (t = who) || o t) := by
  funext t
  unfold own1
  by_cases e : t = who <;> simp [e]
theorem own1_del (o : Int → Bool) (who : Int) : (fun t => if t = who then none else own1 o t) = own1 (fun t => !decide (t = who) && o t) := by
  funext t
  unfold own1
  by_cases e : t = who <;> simp [e]
abbrev OwnM (w : World) (g n : Nat) (o : Int → Bool) (c : Nat) : Prop := MapG ownK unitV w g n (own1 o) c
/-- Block g is locks, whose holds are those of f, in the map mb; S says it as a function. -/
structure LkI (w : World) (g mb n : Nat) (f : Th → Option Hd) (S : Th → Option Ho) : Prop where
  blk : Blk w g 41 #[.map (some mb)]
  map : ∃ c, MapG thK Hd.v w mb n f c
  ne : g ≠ mb
  some_ : ∀ x h, f x = some h → ∃ ho, S x = some ho ∧ h.m = ho.m ∧ (∃ c, OwnM w h.g n ho.o c) ∧ h.g ≠ g ∧ h.g ≠ mb
  none_ : ∀ x, f x = none → S x = none
  apart : ∀ x y h k, f x = some h → f y = some k → h.g = k.g → x = y
/-- Its blocks. -/
def lkB (g mb : Nat) (f : Th → Option Hd) (k : Nat) : Prop := k = g ∨ k = mb ∨ ∃ x h, f x = some h ∧ k = h.g
section
variable {w w' : World} {g mb n : Nat} {f : Th → Option Hd} {S : Th → Option Ho}
theorem LkI.lt (h : LkI w g mb n f S) {k : Nat} (hk : lkB g mb f k) : k < w.heap.size := by
  rcases hk with rfl | rfl | ⟨x, hd, hx, rfl⟩
  · exact h.blk.lt
  · obtain ⟨c, hm⟩ := h.map
    exact hm.lt
  · obtain ⟨ho, _, _, ⟨c, hm⟩, _⟩ := h.some_ x hd hx
    exact hm.lt
theorem LkI.keep {X : Nat → Prop} (h : LkI w g mb n f S) (hk : Kept X w w') (hX : ∀ k, lkB g mb f k → ¬ X k) : LkI w' g mb n f S := by
  refine ⟨hk.blk h.blk (hX _ (.inl rfl)), ?_, h.ne, fun x hd hx => ?_, h.none_, h.apart⟩
  · obtain ⟨c, hm⟩ := h.map
    exact ⟨c, hm.same (hk.block mb hm.lt (hX _ (.inr (.inl rfl))))⟩
  · obtain ⟨ho, h1, h2, ⟨c, hm⟩, h3⟩ := h.some_ x hd hx
    exact ⟨ho, h1, h2, ⟨c, hm.same (hk.block hd.g hm.lt (hX _ (.inr (.inr ⟨x, hd, hx, rfl⟩))))⟩, h3⟩
theorem LkI.below (h : LkI w g mb n f S) (hb : Below w.heap.size w w') : LkI w' g mb n f S := h.keep (Kept.of_below (S := fun _ => False) hb) (fun _ _ h => h)
theorem LkI.more (h : LkI w g mb n f S) {m : Nat} (hm : n ≤ m) : LkI w g mb m f S := by
  refine ⟨h.blk, ?_, h.ne, fun x hd hx => ?_, h.none_, h.apart⟩
  · obtain ⟨c, h1⟩ := h.map
    exact ⟨c, h1.more hm⟩
  · obtain ⟨ho, h1, h2, ⟨c, h3⟩, h4⟩ := h.some_ x hd hx
    exact ⟨ho, h1, h2, ⟨c, h3.more hm⟩, h4⟩
theorem LkI.isSome (h : LkI w g mb n f S) (x : Th) : (S x).isSome = (f x).isSome := by
  cases hx : f x with
  | none => rw [h.none_ x hx]; rfl
  | some hd =>
    obtain ⟨ho, h1, _⟩ := h.some_ x hd hx
    rw [h1]
    rfl
theorem LkI.cnt (h : LkI w g mb n f S) {c : Nat} (hm : MapG thK Hd.v w mb n f c) : Cnt S c := hm.fin.of_same h.isSome
end
/-- What is locked, in blocks of O. -/
def Lk (w : World) (g n : Nat) (S : Th → Option Ho) (O : Nat → Prop) : Prop := ∃ mb f, LkI w g mb n f S ∧ ∀ k, lkB g mb f k → O k
section
variable {w w' : World} {g n : Nat} {S : Th → Option Ho} {O O' : Nat → Prop}
theorem Lk.keep {X : Nat → Prop} (h : Lk w g n S O) (hk : Kept X w w') (hX : ∀ k, O k → ¬ X k) : Lk w' g n S O := by
  obtain ⟨mb, f, h1, h2⟩ := h
  exact ⟨mb, f, h1.keep hk (fun k hk => hX k (h2 k hk)), h2⟩
theorem Lk.mono (h : Lk w g n S O) (hO : ∀ k, O k → k < w.heap.size → O' k) : Lk w g n S O' := by
  obtain ⟨mb, f, h1, h2⟩ := h
  exact ⟨mb, f, h1, fun k hk => hO k (h2 k hk) (h1.lt hk)⟩
theorem Lk.more (h : Lk w g n S O) {m : Nat} (hm : n ≤ m) : Lk w g m S O := by
  obtain ⟨mb, f, h1, h2⟩ := h
  exact ⟨mb, f, h1.more hm, h2⟩
end
/-! hold.has, hold.lets. -/
theorem bcell {W w1 : World} (hb : Below W.heap.size W w1) : (∀ b o, b < W.heap.size → w1.cell? ⟨b, o, none⟩ = W.cell? ⟨b, o, none⟩) ∧ (∀ b o, b < W.heap.size → w1.frozen? ⟨b, o, none⟩ = W.frozen? ⟨b, o, none⟩) :=
  ⟨fun b o h => hb.cell (p := ⟨b, o, none⟩) h, fun b o h => hb.frozen (p := ⟨b, o, none⟩) h⟩
theorem has_some {w : World} {g n c : Nat} {o : Int → Bool} (h : OwnM w g n o c) (m who : Int) (hw : (Lit.int .i64 who).wf = true) :
    Calls Try.prog 18 #[.agg #[.int .i64 m, .map (some g)], .int .i64 who] w fun e w' => e = .returned (.bool (o who)) ∧ Below w.heap.size w w' := by
  have hl := MapG.look_ok (h.below ((Below.refl _ w).alloc (Nat.le_refl _) (.cells #[.int .i64 m, .map (some g)] 50))) mapOwn (z := ()) zero_unit who hw
  rw [own1_some] at hl
  have hl2 : (Instr.lookup 48 (.map (some g)) (.int .i64 who) true).run Try.prog (w.alloc (.cells #[.int .i64 m, .map (some g)] 50)) = .ok (.tuple #[.agg #[], .bool (o who)]) (w.alloc (.cells #[.int .i64 m, .map (some g)] 50)) := hl
  clear hl h
  generalize o who = b at *
  go_enter Try.func18, Try.ntmps18
  go_wp2
  go_ret
  exact ⟨rfl, ((Below.refl _ w).alloc (Nat.le_refl _) _).alloc (by simp) _⟩
theorem has_none {w : World} (m who : Int) (hw : (Lit.int .i64 who).wf = true) :
    Calls Try.prog 18 #[.agg #[.int .i64 m, .map none], .int .i64 who] w fun e w' => e = .returned (.bool false) ∧ Below w.heap.size w w' := by
  have hl : ∀ w, (Instr.lookup 48 (.map none) (.int .i64 who) true).run Try.prog w = .ok (.tuple #[.agg #[], .bool false]) w := fun w => nil_look_ok ownK mapOwn zero_unit who hw w
  go_enter Try.func18, Try.ntmps18
  go_wp2
  go_ret
  exact ⟨rfl, ((Below.refl _ w).alloc (Nat.le_refl _) _).alloc (by simp) _⟩
open Classical in
/-- May somebody hold it in a mode, beside those who hold it? -/
noncomputable def letsB (h : Ho) (who mode : Int) : Bool := decide ((∀ i, h.o i = true → i = who) ∨ (mode = h.m ∧ mode ≠ 3))
open Classical in
theorem letsB_iff {h : Ho} {who mode : Int} : letsB h who mode = true ↔ ((∀ i, h.o i = true → i = who) ∨ (mode = h.m ∧ mode ≠ 3)) := by
  unfold letsB
  rw [decide_eq_true_eq]
theorem lets_none {w : World} (who mode : Int) (hw : (Lit.int .i64 who).wf = true) :
    Calls Try.prog 16 #[.agg #[.int .i64 0, .map none], .int .i64 who, .int .i64 mode] w fun e w' => e = .returned (.bool true) ∧ Below w.heap.size w w' := by
  have hn := fun ty w => nil_len mapOwn ty w
  go_enter Try.func16, Try.ntmps16
  go_wp2_with (go_at_call 18; refine (has_none 0 who hw).mono ?_; rintro e w2 ⟨rfl, hb⟩; have HB := hide hb; clear hb)
  go_ret
  exact ⟨rfl, ((Below.refl _ w).alloc (Nat.le_refl _) _).trans (HB.out.mono (by simp))⟩
theorem lets_some {w : World} {g n c : Nat} {o : Int → Bool} (h : OwnM w g n o c) (m who mode : Int) (hw : (Lit.int .i64 who).wf = true) (hn : n ≤ 1000000) :
    Calls Try.prog 16 #[.agg #[.int .i64 m, .map (some g)], .int .i64 who, .int .i64 mode] w fun e w' => e = .returned (.bool (letsB ⟨m, o⟩ who mode)) ∧ Below w.heap.size w w' := by
  have hle := h.le
  have hot := h.fin.others who
  have hcn : (c : Int) ≤ 1000000 := by omega
  have hB := h.below ((Below.refl _ w).alloc (Nat.le_refl _) (.cells #[.int .i64 m, .map (some g)] 50))
  have hln := fun ty => hB.len mapOwn ty
  have hhas := has_some hB m who hw
  have HH := hide hhas
  have hpos : o who = true → 0 < c := fun e => h.fin.pos (x := who) (by rw [own1_some]; exact e)
  simp only [own1_some] at hot
  obtain ⟨z, hz⟩ : ∃ z, letsB ⟨m, o⟩ who mode = z := ⟨_, rfl⟩
  have hzi : z = true ↔ (∀ i, o i = true → i = who) ∨ (mode = m ∧ mode ≠ 3) := by rw [← hz, letsB_iff]
  rw [hz]
  clear hz hhas hB h hle
  generalize (∀ i, o i = true → i = who) = A at *
  generalize o who = ow at *
  cases ow
  · simp only [Bool.false_eq_true, if_false, Nat.sub_zero] at hot
    clear hpos
    by_cases h0 : c = 0
    · subst h0
      have hz : z = true := hzi.2 (.inl (hot.1 rfl))
      subst hz
      clear hzi hot hcn
      go_enter Try.func16, Try.ntmps16
      go_wp2_with (go_at_call 18; refine HH.out.mono ?_; rintro e w2 ⟨rfl, hb⟩; have HB := hide hb; clear hb)
      go_ret
      exact ⟨rfl, ((Below.refl _ w).alloc (Nat.le_refl _) _).trans (HB.out.mono (by simp))⟩
    · have hA : ¬ A := fun e => h0 (hot.2 e)
      have hzi2 : z = true ↔ (mode = m ∧ mode ≠ 3) := by rw [hzi]; simp [hA]
      have q0 : ((c : Int) == 0) = false := by simp [h0]
      have HZ : Hid (z = ((mode == m) && (mode != 3))) := hide (by rw [Bool.eq_iff_iff, hzi2]; simp)
      clear hzi hzi2 hot hA h0
      cases e1 : (mode == m) <;> cases e2 : (mode != 3)
      all_goals
        rw [e1, e2] at HZ
        go_enter Try.func16, Try.ntmps16
        go_wp2_with (go_at_call 18; refine HH.out.mono ?_; rintro e w2 ⟨rfl, hb⟩; have HB := hide hb; clear hb; obtain ⟨hc, hf⟩ := bcell HB.out)
        go_ret
        exact ⟨by rw [HZ.out]; rfl, ((Below.refl _ w).alloc (Nat.le_refl _) _).trans (HB.out.mono (by simp))⟩
  · simp only [if_true] at hot
    have hp := hpos rfl
    clear hpos
    obtain ⟨k, rfl⟩ : ∃ k, c = k + 1 := ⟨c - 1, by omega⟩
    simp only [Nat.add_sub_cancel] at hot
    have hk : ((k + 1 : Nat) : Int) - 1 = (k : Int) := by omega
    have hk2 : (k : Int) ≤ 1000000 := by omega
    have hk3 : ((k + 1 : Nat) : Int) = (k : Int) + 1 := by omega
    rw [hk3] at hln
    clear hp hcn hk hk3
    by_cases h0 : k = 0
    · subst h0
      have hz : z = true := hzi.2 (.inl (hot.1 rfl))
      subst hz
      clear hzi hot
      go_enter Try.func16, Try.ntmps16
      go_wp2_with (go_at_call 18; refine HH.out.mono ?_; rintro e w2 ⟨rfl, hb⟩; have HB := hide hb; clear hb)
      go_ret
      exact ⟨rfl, ((Below.refl _ w).alloc (Nat.le_refl _) _).trans (HB.out.mono (by simp))⟩
    · have hA : ¬ A := fun e => h0 (hot.2 e)
      have hzi2 : z = true ↔ (mode = m ∧ mode ≠ 3) := by rw [hzi]; simp [hA]
      have q0 : ((k : Int) == 0) = false := by simp [h0]
      have HZ : Hid (z = ((mode == m) && (mode != 3))) := hide (by rw [Bool.eq_iff_iff, hzi2]; simp)
      clear hzi hzi2 hot hA h0
      cases e1 : (mode == m) <;> cases e2 : (mode != 3)
      all_goals
        rw [e1, e2] at HZ
        go_enter Try.func16, Try.ntmps16
        go_wp2_with (go_at_call 18; refine HH.out.mono ?_; rintro e w2 ⟨rfl, hb⟩; have HB := hide hb; clear hb; obtain ⟨hc, hf⟩ := bcell HB.out)
        go_ret
        exact ⟨by rw [HZ.out]; rfl, ((Below.refl _ w).alloc (Nat.le_refl _) _).trans (HB.out.mono (by simp))⟩
/-! whole, Len, New. -/
theorem whole_any (t : Int) (w : World) : Calls Try.prog 15 #[.int .i64 t] w fun e w' => e = .returned (.agg #[.int .i64 t, .bool true, .string ⟨#[]⟩]) ∧ Below w.heap.size w w' := by
  have H := Blk.new_ w #[.int .i64 t, .bool true, .string ⟨#[]⟩] 43 rfl
  go_enter Try.func15, Try.ntmps15
  go_wp2
  refine bodyPost_ret (v := .agg #[.int .i64 t, .bool true, .string ⟨#[]⟩]) (by simp [results, Try.results15, go_sem]) rfl ⟨rfl, ?_⟩
  exact (Below.refl _ w).alloc (Nat.le_refl _) _
theorem len_nil (w : World) : Calls Try.prog 13 #[.pointer none] w fun e w' => e = .returned (.int .i64 0) ∧ w = w' := by
  go_enter Try.func13, Try.ntmps13
  go_wp2
  go_ret
  exact ⟨rfl, rfl⟩
theorem len_lk {w : World} {g n : Nat} {S : Th → Option Ho} {O : Nat → Prop} (h : Lk w g n S O) {c : Nat} (hc : Cnt S c) : Calls Try.prog 13 #[.pointer (some ⟨g, 0, none⟩)] w fun e w' => e = .returned (.int .i64 (c : Int)) ∧ w = w' := by
  obtain ⟨mb, f, h1, _⟩ := h
  obtain ⟨c', hm⟩ := h1.map
  obtain rfl := (h1.cnt hm).uniq hc (fun _ => rfl)
  have hln := fun ty => hm.len mapHold ty
  have c0 := h1.blk.cell 0 _ rfl
  clear h1 hm hc
  go_enter Try.func13, Try.ntmps13
  go_wp2
  go_ret
  exact ⟨rfl, rfl⟩
theorem new_lk (w : World) : Calls Try.prog 9 #[] w fun e w' => ∃ g, e = .returned (.pointer (some ⟨g, 0, none⟩)) ∧ Below w.heap.size w w' ∧ Lk w' g 0 (fun _ => none) (fun k => w.heap.size ≤ k) := by
  have hmm := @run_makeMap Try.prog
  go_enter Try.func9, Try.ntmps9
  go_wp2
  go_ret
  have hb1 : Below w.heap.size w (w.alloc (.map #[] 0)) := (Below.refl _ w).alloc (Nat.le_refl _) _
  refine ⟨w.heap.size + 1, by simp, hb1.alloc (by simp) _, ?_⟩
  refine ⟨w.heap.size, fun _ => none, ⟨Blk.new_ _ _ _ (by simp), ⟨0, ?_⟩, by omega, (fun x h hx => by cases hx), fun _ _ => rfl, (fun x y h k hx => by cases hx)⟩, ?_⟩
  · exact (MapG.new_ w).below ((Below.refl _ _).alloc (Nat.le_refl _) _)
  · rintro k (rfl | rfl | ⟨x, h, hx, _⟩)
    · omega
    · exact Nat.le_refl _
    · cases hx
end Go.Proofs.Ytdoeinofcklnhaa
