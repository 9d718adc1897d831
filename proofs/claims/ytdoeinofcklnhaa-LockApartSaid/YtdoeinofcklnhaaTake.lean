/-
  Locks.take.
-/
import Derived.Test.YtdoeinofcklnhaaLk
import Derived.Test.YtdoeinofcklnhaaLastB
namespace Go.Proofs.Ytdoeinofcklnhaa
open Go.RowKit
set_option maxRecDepth 20000
set_option linter.unusedSimpArgs false
set_option linter.unusedVariables false

/-- Somebody holds a thing in a mode, as the others let it. -/
def takeS (S : Th → Option Ho) (who : Int) (x : Th) (mode : Int) : Th → Option Ho := fun y => if y = x then some ⟨if ((S x).getD ⟨mode, fun _ => false⟩).m = mode then mode else 3, fun i => decide (i = who) || ((S x).getD ⟨mode, fun _ => false⟩).o i⟩ else S y
theorem takeS_none {S : Th → Option Ho} {who mode : Int} {x : Th} (h : S x = none) : takeS S who x mode = fun y => if y = x then some ⟨mode, fun i => decide (i = who) || false⟩ else S y := by
  funext y
  unfold takeS
  rw [h]
  simp
theorem takeS_some {S : Th → Option Ho} {who mode : Int} {x : Th} {ho : Ho} (h : S x = some ho) : takeS S who x mode = fun y => if y = x then some ⟨if ho.m = mode then mode else 3, fun i => decide (i = who) || ho.o i⟩ else S y := by
  funext y
  unfold takeS
  rw [h]
  rfl
/-- Ahead of the hold's store into the map of holds. -/
structure TakeM (w w3 : World) (g mb n : Nat) (f : Th → Option Hd) (S : Th → Option Ho) (x : Th) (m' : Int) (g' : Nat) (ho : Ho) : Prop where
  blk : Blk w3 g 41 #[.map (some mb)]
  map : ∃ c, MapG thK Hd.v w3 mb n f c
  own : m' = ho.m ∧ ∃ c, OwnM w3 g' (n + 1) ho.o c
  rest : ∀ y h, y ≠ x → f y = some h → ∃ ho, S y = some ho ∧ h.m = ho.m ∧ ∃ c, OwnM w3 h.g n ho.o c
  fresh : w.heap.size ≤ g' ∨ ∃ m, f x = some ⟨m, g'⟩
  base : LkI w g mb n f S
  kept : Kept (lkB g mb f) w w3
section
variable {w w3 w4 : World} {g mb n g' : Nat} {f : Th → Option Hd} {S : Th → Option Ho} {x : Th} {m' : Int} {ho : Ho}
theorem TakeM.below (h : TakeM w w3 g mb n f S x m' g' ho) (hb : Below w3.heap.size w3 w4) : TakeM w w4 g mb n f S x m' g' ho := by
  refine ⟨h.blk.below hb, ?_, ⟨h.own.1, ?_⟩, fun y k hy hk => ?_, h.fresh, h.base, h.kept.trans (Kept.of_below (S := fun _ => False) hb) (fun k hk => hk.elim)⟩
  · obtain ⟨c, hm⟩ := h.map
    exact ⟨c, hm.below hb⟩
  · obtain ⟨c, hm⟩ := h.own.2
    exact ⟨c, hm.below hb⟩
  · obtain ⟨ho, h1, h2, c, hm⟩ := h.rest y k hy hk
    exact ⟨ho, h1, h2, c, hm.below hb⟩
theorem TakeM.ne (h : TakeM w w3 g mb n f S x m' g' ho) : g' ≠ g ∧ g' ≠ mb ∧ ∀ y k, y ≠ x → f y = some k → k.g ≠ g' := by
  rcases h.fresh with hf | ⟨m, hf⟩
  · refine ⟨fun e => ?_, fun e => ?_, fun y k hy hk e => ?_⟩
    · have := h.base.lt (k := g) (.inl rfl)
      omega
    · have := h.base.lt (k := mb) (.inr (.inl rfl))
      omega
    · have := h.base.lt (k := k.g) (.inr (.inr ⟨y, k, hk, rfl⟩))
      omega
  · obtain ⟨_, _, _, _, h1, h2⟩ := h.base.some_ x _ hf
    exact ⟨h1, h2, fun y k hy hk e => hy (h.base.apart y x k _ hk hf e)⟩
/-- Behind it. -/
theorem TakeM.end_ (h : TakeM w w3 g mb n f S x m' g' ho) {c : Nat} (hm : MapG thK Hd.v w4 mb (n + 1) (fun y => if y = x then some ⟨m', g'⟩ else f y) c) (ht : w3.mapTurned w4 mb) {S' : Th → Option Ho} (hS : S' = fun y => if y = x then some ho else S y) :
    Kept (lkB g mb f) w w4 ∧ Lk w4 g (n + 1) S' (fun j => lkB g mb f j ∨ w.heap.size ≤ j) := by
  have hk := turned_kept ht
  obtain ⟨n1, n2, n3⟩ := h.ne
  refine ⟨h.kept.trans hk (fun i hi => .inl (.inr (.inl hi))), mb, _, ⟨hk.blk h.blk h.base.ne, ⟨c, hm⟩, h.base.ne, fun y k hy => ?_, fun y hy => ?_, fun y z k l hy hz e => ?_⟩, fun k hk => ?_⟩
  · subst hS
    have hy := show (if y = x then some (⟨m', g'⟩ : Hd) else f y) = _ from hy
    show ∃ ho_1, (if y = x then some ho else S y) = some ho_1 ∧ _
    by_cases e : y = x
    · rw [if_pos e] at hy
      rw [if_pos e]
      obtain rfl := Option.some.inj hy
      obtain ⟨c2, ho2⟩ := h.own.2
      exact ⟨ho, rfl, h.own.1, ⟨c2, ho2.same (hk.block g' ho2.lt n2)⟩, n1, n2⟩
    · rw [if_neg e] at hy
      rw [if_neg e]
      obtain ⟨ho2, h1, h2, c2, h3⟩ := h.rest y k e hy
      obtain ⟨_, _, _, _, h4, h5⟩ := h.base.some_ y k hy
      exact ⟨ho2, h1, h2, ⟨c2, (h3.same (hk.block k.g h3.lt h5)).more (by omega)⟩, h4, h5⟩
  · subst hS
    have hy := show (if y = x then some (⟨m', g'⟩ : Hd) else f y) = _ from hy
    show (if y = x then some ho else S y) = none
    by_cases e : y = x
    · rw [if_pos e] at hy
      cases hy
    · rw [if_neg e] at hy
      rw [if_neg e]
      exact h.base.none_ y hy
  · have hy := show (if y = x then some (⟨m', g'⟩ : Hd) else f y) = _ from hy
    have hz := show (if z = x then some (⟨m', g'⟩ : Hd) else f z) = _ from hz
    by_cases e1 : y = x <;> by_cases e2 : z = x
    · rw [e1, e2]
    · rw [if_pos e1] at hy
      rw [if_neg e2] at hz
      obtain rfl := Option.some.inj hy
      exact absurd e.symm (n3 z l e2 hz)
    · rw [if_neg e1] at hy
      rw [if_pos e2] at hz
      obtain rfl := Option.some.inj hz
      exact absurd e (n3 y k e1 hy)
    · rw [if_neg e1] at hy
      rw [if_neg e2] at hz
      exact h.base.apart y z k l hy hz e
  · rcases hk with rfl | rfl | ⟨y, l, hy, rfl⟩
    · exact .inl (.inl rfl)
    · exact .inl (.inr (.inl rfl))
    · have hy := show (if y = x then some (⟨m', g'⟩ : Hd) else f y) = _ from hy
      by_cases e : y = x
      · rw [if_pos e] at hy
        obtain rfl := Option.some.inj hy
        rcases h.fresh with hf | ⟨m, hf⟩
        · exact .inr hf
        · exact .inl (.inr (.inr ⟨x, _, hf, rfl⟩))
      · rw [if_neg e] at hy
        exact .inl (.inr (.inr ⟨y, l, hy, rfl⟩))
end
/-- Its first region: what the map has of the thing, boxed. -/
theorem take_walk {w : World} {g mb n : Nat} {f : Th → Option Hd} {S : Th → Option Ho} {t mode who : Int} {b : Bool} {k : ByteArray} (h : LkI w g mb n f S) (hx : Th.Ok ⟨t, b, k⟩) (hw : (Lit.int .i64 who).wf = true) (hn : n ≤ 1000000) :
    Calls Try.prog 17 #[.pointer (some ⟨g, 0, none⟩), .int .i64 who, .agg #[.int .i64 t, .bool b, .string k, .int .i64 mode]] w fun e w' => e = .returned (.tuple #[]) ∧ Kept (lkB g mb f) w w' ∧ Lk w' g (n + 1) (takeS S who ⟨t, b, k⟩ mode) (fun j => lkB g mb f j ∨ w.heap.size ≤ j) := by
  have LB := hide (h.below ((Below.refl _ w).alloc (Nat.le_refl _) (.cells #[.int .i64 t, .bool b, .string k, .int .i64 mode] 46)))
  have HX := hide (Blk.new_ w #[.int .i64 t, .bool b, .string k, .int .i64 mode] 46 rfl)
  obtain ⟨m0, g0, z0, hval, HC⟩ : ∃ (m0 : Int) (g0 : Option Nat) (z0 : Bool), (gotV Hd.v f ⟨t, b, k⟩ (.agg #[.int .i64 0, .map none]) = .agg #[.int .i64 m0, .map g0] ∧ (f ⟨t, b, k⟩).isSome = z0) ∧ Hid ((z0 = false ∧ f ⟨t, b, k⟩ = none ∧ g0 = none) ∨ (z0 = true ∧ ∃ gg, g0 = some gg ∧ f ⟨t, b, k⟩ = some ⟨m0, gg⟩)) := by
    cases hf : f ⟨t, b, k⟩ with
    | none => exact ⟨0, none, false, ⟨by unfold gotV; rw [hf], rfl⟩, .inl ⟨rfl, rfl, rfl⟩⟩
    | some y => exact ⟨y.m, some y.g, true, ⟨by unfold gotV; rw [hf]; rfl, rfl⟩, .inr ⟨rfl, y.g, rfl, rfl⟩⟩
  have HL : Hid (∀ w2, Below (w.alloc (.cells #[.int .i64 t, .bool b, .string k, .int .i64 mode] 46)).heap.size (w.alloc (.cells #[.int .i64 t, .bool b, .string k, .int .i64 mode] 46)) w2 → (Instr.lookup 39 (.map (some mb)) (.agg #[.int .i64 t, .bool b, .string k]) true).run Try.prog w2 = .ok (.tuple #[.agg #[.int .i64 m0, .map g0], .bool z0]) w2) := hide (fun w2 hb => by
    obtain ⟨c, hm⟩ := (LB.out.below hb).map
    have := hm.look_any mapHold zero_hold ⟨t, b, k⟩ hx true
    rw [hval.1, hval.2] at this
    exact this)
  have HI := hide h
  clear h hval
  go_enter Try.func17, Try.ntmps17
  go_upto_region 1 with (fail)
  refine region_phases (valV [some (.pointer (some ⟨g, 0, none⟩)), some (.pointer (some ⟨g, 0, none⟩)), some (.pointer (some ⟨g, 0, none⟩)), some (.map (some mb)), some (.pointer (some ⟨w.heap.size, 0, none⟩)), some (.agg #[.int .i64 t, .bool b, .string k]), some (.tuple #[.agg #[.int .i64 m0, .map g0], .bool z0]), some (.tuple #[.agg #[.int .i64 m0, .map g0], .bool z0]), some (.agg #[.int .i64 m0, .map g0]), some (.bool z0), some (.pointer (some ⟨w.heap.size + 1, 0, none⟩)), none, some (.bool z0)]) (phased [⟨11, 8, fun _ w2 => w2 = (w.alloc (.cells #[.int .i64 t, .bool b, .string k, .int .i64 mode] 46)).drew.alloc (.cells #[.int .i64 m0, .map g0] 50)⟩, ⟨10, 10, fun _ w2 => w2 = (w.alloc (.cells #[.int .i64 t, .bool b, .string k, .int .i64 mode] 46)).drew.alloc (.cells #[.int .i64 0, .map none] 50)⟩] (fun w2 => w2 = (w.alloc (.cells #[.int .i64 t, .bool b, .string k, .int .i64 mode] 46)).drew)) (by kernel_rfl) (by kernel_rfl) (by kernel_rfl) (by kernel_rfl) (phased_ext (by kernel_rfl)) (rfl) ?_ ?_
  · intro i o ho L a w2 hph hsz hLi hnot hyes old dep
    match i, ho with
    | 0, ho =>
      obtain rfl := Option.some.inj ho
      rw [if_pos (wanted_none rfl)]
      have o0 := old 0 (by kernel_rfl)
      refine wp_yields (v := .pointer (some ⟨g, 0, none⟩)) (w' := w2) ?_ (fun u hu => Option.some.inj (Option.some.inj hu)) (phased_quiet hLi (by rfl) hph)
      clear dep old ho hsz hph hnot hyes hLi
      go_simp
    | 1, ho =>
      obtain rfl := Option.some.inj ho
      rw [if_pos (wanted_none rfl)]
      have d0 : a.tmps.getD 9 undef = .pointer (some ⟨g, 0, none⟩) := dep 0 _ _ (by kernel_rfl) rfl rfl _ rfl
      have e0 : a.tmps[9]?.getD undef = .pointer (some ⟨g, 0, none⟩) := (Array.getD_eq_getD_getElem? ..).symm.trans d0
      refine wp_yields (v := .pointer (some ⟨g, 0, none⟩)) (w' := w2) ?_ (fun u hu => Option.some.inj (Option.some.inj hu)) (phased_quiet hLi (by rfl) hph)
      clear dep old ho hsz hph hnot hyes hLi
      go_simp
    | 2, ho =>
      obtain rfl := Option.some.inj ho
      rw [if_pos (wanted_none rfl)]
      have d1 : a.tmps.getD 10 undef = .pointer (some ⟨g, 0, none⟩) := dep 1 _ _ (by kernel_rfl) rfl rfl _ rfl
      have e1 : a.tmps[10]?.getD undef = .pointer (some ⟨g, 0, none⟩) := (Array.getD_eq_getD_getElem? ..).symm.trans d1
      refine wp_yields (v := .pointer (some ⟨g, 0, none⟩)) (w' := w2) ?_ (fun u hu => Option.some.inj (Option.some.inj hu)) (phased_quiet hLi (by rfl) hph)
      clear dep old ho hsz hph hnot hyes hLi
      go_simp
    | 3, ho =>
      obtain rfl := Option.some.inj ho
      rw [if_pos (wanted_none rfl)]
      have d2 : a.tmps.getD 11 undef = .pointer (some ⟨g, 0, none⟩) := dep 2 _ _ (by kernel_rfl) rfl rfl _ rfl
      have e2 : a.tmps[11]?.getD undef = .pointer (some ⟨g, 0, none⟩) := (Array.getD_eq_getD_getElem? ..).symm.trans d2
      have hB : Below (w.alloc (.cells #[.int .i64 t, .bool b, .string k, .int .i64 mode] 46)).heap.size (w.alloc (.cells #[.int .i64 t, .bool b, .string k, .int .i64 mode] 46)) w2 := phased_all (R := fun w2 => Below (w.alloc (.cells #[.int .i64 t, .bool b, .string k, .int .i64 mode] 46)).heap.size (w.alloc (.cells #[.int .i64 t, .bool b, .string k, .int .i64 mode] 46)) w2) (fun p hp v w2 h => by simp only [List.mem_cons, List.not_mem_nil, or_false] at hp; rcases hp with rfl | rfl <;> (rw [show w2 = _ from h]; exact (Below.refl _ _).drew.alloc (by simp) _)) (fun w2 h => by rw [h]; exact (Below.refl _ _).drew) hph
      have c0 := (LB.out.below hB).blk.cell 0 _ rfl
      refine wp_yields (v := .map (some mb)) (w' := w2) ?_ (fun u hu => Option.some.inj (Option.some.inj hu)) (phased_quiet hLi (by rfl) hph)
      clear dep old ho hsz hph hnot hyes hLi
      clear hB
      go_simp
    | 4, ho =>
      obtain rfl := Option.some.inj ho
      rw [if_pos (wanted_none rfl)]
      have o5 := old 5 (by kernel_rfl)
      refine wp_yields (v := .pointer (some ⟨w.heap.size, 0, none⟩)) (w' := w2) ?_ (fun u hu => Option.some.inj (Option.some.inj hu)) (phased_quiet hLi (by rfl) hph)
      clear dep old ho hsz hph hnot hyes hLi
      go_simp
    | 5, ho =>
      obtain rfl := Option.some.inj ho
      rw [if_pos (wanted_none rfl)]
      have d4 : a.tmps.getD 13 undef = .pointer (some ⟨w.heap.size, 0, none⟩) := dep 4 _ _ (by kernel_rfl) rfl rfl _ rfl
      have e4 : a.tmps[13]?.getD undef = .pointer (some ⟨w.heap.size, 0, none⟩) := (Array.getD_eq_getD_getElem? ..).symm.trans d4
      have hB : Below (w.alloc (.cells #[.int .i64 t, .bool b, .string k, .int .i64 mode] 46)).heap.size (w.alloc (.cells #[.int .i64 t, .bool b, .string k, .int .i64 mode] 46)) w2 := phased_all (R := fun w2 => Below (w.alloc (.cells #[.int .i64 t, .bool b, .string k, .int .i64 mode] 46)).heap.size (w.alloc (.cells #[.int .i64 t, .bool b, .string k, .int .i64 mode] 46)) w2) (fun p hp v w2 h => by simp only [List.mem_cons, List.not_mem_nil, or_false] at hp; rcases hp with rfl | rfl <;> (rw [show w2 = _ from h]; exact (Below.refl _ _).drew.alloc (by simp) _)) (fun w2 h => by rw [h]; exact (Below.refl _ _).drew) hph
      have hx := HX.out.below hB
      have c0 := hx.cell 0 _ rfl
      have c1 := hx.cell 1 _ rfl
      have c2 := hx.cell 2 _ rfl
      refine wp_yields (v := .agg #[.int .i64 t, .bool b, .string k]) (w' := w2) ?_ (fun u hu => Option.some.inj (Option.some.inj hu)) (phased_quiet hLi (by rfl) hph)
      clear dep old ho hsz hph hnot hyes hLi
      clear hB hx
      go_simp
    | 6, ho =>
      obtain rfl := Option.some.inj ho
      rw [if_pos (wanted_none rfl)]
      have d3 : a.tmps.getD 12 undef = .map (some mb) := dep 3 _ _ (by kernel_rfl) rfl rfl _ rfl
      have e3 : a.tmps[12]?.getD undef = .map (some mb) := (Array.getD_eq_getD_getElem? ..).symm.trans d3
      have d5 : a.tmps.getD 14 undef = .agg #[.int .i64 t, .bool b, .string k] := dep 5 _ _ (by kernel_rfl) rfl rfl _ rfl
      have e5 : a.tmps[14]?.getD undef = .agg #[.int .i64 t, .bool b, .string k] := (Array.getD_eq_getD_getElem? ..).symm.trans d5
      have hB : Below (w.alloc (.cells #[.int .i64 t, .bool b, .string k, .int .i64 mode] 46)).heap.size (w.alloc (.cells #[.int .i64 t, .bool b, .string k, .int .i64 mode] 46)) w2 := phased_all (R := fun w2 => Below (w.alloc (.cells #[.int .i64 t, .bool b, .string k, .int .i64 mode] 46)).heap.size (w.alloc (.cells #[.int .i64 t, .bool b, .string k, .int .i64 mode] 46)) w2) (fun p hp v w2 h => by simp only [List.mem_cons, List.not_mem_nil, or_false] at hp; rcases hp with rfl | rfl <;> (rw [show w2 = _ from h]; exact (Below.refl _ _).drew.alloc (by simp) _)) (fun w2 h => by rw [h]; exact (Below.refl _ _).drew) hph
      have hl := HL.out w2 hB
      refine wp_yields (v := .tuple #[.agg #[.int .i64 m0, .map g0], .bool z0]) (w' := w2) ?_ (fun u hu => Option.some.inj (Option.some.inj hu)) (phased_quiet hLi (by rfl) hph)
      clear dep old ho hsz hph hnot hyes hLi
      clear hB
      go_simp
    | 7, ho =>
      obtain rfl := Option.some.inj ho
      rw [if_pos (wanted_none rfl)]
      have d6 : a.tmps.getD 15 undef = .tuple #[.agg #[.int .i64 m0, .map g0], .bool z0] := dep 6 _ _ (by kernel_rfl) rfl rfl _ rfl
      have e6 : a.tmps[15]?.getD undef = .tuple #[.agg #[.int .i64 m0, .map g0], .bool z0] := (Array.getD_eq_getD_getElem? ..).symm.trans d6
      refine wp_yields (v := .tuple #[.agg #[.int .i64 m0, .map g0], .bool z0]) (w' := w2) ?_ (fun u hu => Option.some.inj (Option.some.inj hu)) (phased_quiet hLi (by rfl) hph)
      clear dep old ho hsz hph hnot hyes hLi
      go_simp
    | 8, ho =>
      obtain rfl := Option.some.inj ho
      rw [if_pos (wanted_none rfl)]
      have d7 : a.tmps.getD 8 undef = .tuple #[.agg #[.int .i64 m0, .map g0], .bool z0] := dep 7 _ _ (by kernel_rfl) rfl rfl _ rfl
      have e7 : a.tmps[8]?.getD undef = .tuple #[.agg #[.int .i64 m0, .map g0], .bool z0] := (Array.getD_eq_getD_getElem? ..).symm.trans d7
      refine wp_yields (v := .agg #[.int .i64 m0, .map g0]) (w' := w2) ?_ (fun u hu => Option.some.inj (Option.some.inj hu)) (phased_quiet hLi (by rfl) hph)
      clear dep old ho hsz hph hnot hyes hLi
      go_simp
    | 9, ho =>
      obtain rfl := Option.some.inj ho
      rw [if_pos (wanted_none rfl)]
      have d7 : a.tmps.getD 8 undef = .tuple #[.agg #[.int .i64 m0, .map g0], .bool z0] := dep 7 _ _ (by kernel_rfl) rfl rfl _ rfl
      have e7 : a.tmps[8]?.getD undef = .tuple #[.agg #[.int .i64 m0, .map g0], .bool z0] := (Array.getD_eq_getD_getElem? ..).symm.trans d7
      refine wp_yields (v := .bool z0) (w' := w2) ?_ (fun u hu => Option.some.inj (Option.some.inj hu)) (phased_quiet hLi (by rfl) hph)
      clear dep old ho hsz hph hnot hyes hLi
      go_simp
    | 10, ho =>
      obtain rfl := Option.some.inj ho
      rw [if_pos (wanted_none rfl)]
      unfold phased at hph
      rw [if_neg (by rw [hnot 11 (by kernel_rfl)]; decide)] at hph
      unfold phased at hph
      rw [if_neg (by rw [hLi]; decide)] at hph
      obtain rfl : w2 = (w.alloc (.cells #[.int .i64 t, .bool b, .string k, .int .i64 mode] 46)).drew := hph
      refine wp_yields (v := .pointer (some ⟨w.heap.size + 1, 0, none⟩)) (w' := (w.alloc (.cells #[.int .i64 t, .bool b, .string k, .int .i64 mode] 46)).drew.alloc (.cells #[.int .i64 0, .map none] 50)) ?_ (fun u hu => Option.some.inj (Option.some.inj hu)) ?_
      · clear dep old ho hsz hnot hyes hLi
        go_simp
      · unfold phased
        rw [if_neg (by simp [also, hnot 11 (by kernel_rfl)])]
        unfold phased
        rw [if_pos (by simp [also])]
        exact ⟨by simp [also], rfl⟩
    | 11, ho =>
      obtain rfl := Option.some.inj ho
      rw [if_pos (wanted_none rfl)]
      have d10 : a.tmps.getD 6 undef = .pointer (some ⟨w.heap.size + 1, 0, none⟩) := dep 10 _ _ (by kernel_rfl) rfl rfl _ rfl
      have e10 : a.tmps[6]?.getD undef = .pointer (some ⟨w.heap.size + 1, 0, none⟩) := (Array.getD_eq_getD_getElem? ..).symm.trans d10
      have d8 : a.tmps.getD 16 undef = .agg #[.int .i64 m0, .map g0] := dep 8 _ _ (by kernel_rfl) rfl rfl _ rfl
      have e8 : a.tmps[16]?.getD undef = .agg #[.int .i64 m0, .map g0] := (Array.getD_eq_getD_getElem? ..).symm.trans d8
      unfold phased at hph
      rw [if_neg (by rw [hLi]; decide)] at hph
      unfold phased at hph
      rw [if_pos (hyes 10 (by kernel_rfl))] at hph
      obtain rfl : w2 = _ := hph.2
      refine wp_skips (w' := (w.alloc (.cells #[.int .i64 t, .bool b, .string k, .int .i64 mode] 46)).drew.alloc (.cells #[.int .i64 m0, .map g0] 50)) ?_ (fun u hu => by cases Option.some.inj hu) ?_
      · clear dep old ho hsz hnot hyes hLi hph
        go_simp
      · unfold phased
        rw [if_pos (by simp [also])]
        exact ⟨by simp [also, hyes 8 (by kernel_rfl)], rfl⟩
    | 12, ho =>
      obtain rfl := Option.some.inj ho
      rw [if_pos (wanted_none rfl)]
      have d9 : a.tmps.getD 17 undef = .bool z0 := dep 9 _ _ (by kernel_rfl) rfl rfl _ rfl
      have e9 : a.tmps[17]?.getD undef = .bool z0 := (Array.getD_eq_getD_getElem? ..).symm.trans d9
      refine wp_yields (v := .bool z0) (w' := w2) ?_ (fun u hu => Option.some.inj (Option.some.inj hu)) (phased_quiet hLi (by rfl) hph)
      clear dep old ho hsz hph hnot hyes hLi
      go_simp
    | i + 13, ho => exact absurd ho (by simp)
  · intro a w2 hph hsz hdf fin keep
    obtain ⟨tm, df⟩ := a
    have hx := frame_of [9, 10, 11, 12, 13, 14, 15, 8, 16, 17, 6, 7] (by kernel_rfl) hsz keep
    dsimp only at hdf hx
    simp only [List.foldl_cons, List.foldl_nil] at hx
    subst hdf
    clear hsz keep
    have kn : tm.getD 9 undef = .pointer (some ⟨g, 0, none⟩) := fin 0 _ _ rfl rfl _ rfl
    rw [kn] at hx
    clear kn
    have kn : tm.getD 10 undef = .pointer (some ⟨g, 0, none⟩) := fin 1 _ _ rfl rfl _ rfl
    rw [kn] at hx
    clear kn
    have kn : tm.getD 11 undef = .pointer (some ⟨g, 0, none⟩) := fin 2 _ _ rfl rfl _ rfl
    rw [kn] at hx
    clear kn
    have kn : tm.getD 12 undef = .map (some mb) := fin 3 _ _ rfl rfl _ rfl
    rw [kn] at hx
    clear kn
    have kn : tm.getD 13 undef = .pointer (some ⟨w.heap.size, 0, none⟩) := fin 4 _ _ rfl rfl _ rfl
    rw [kn] at hx
    clear kn
    have kn : tm.getD 14 undef = .agg #[.int .i64 t, .bool b, .string k] := fin 5 _ _ rfl rfl _ rfl
    rw [kn] at hx
    clear kn
    have kn : tm.getD 15 undef = .tuple #[.agg #[.int .i64 m0, .map g0], .bool z0] := fin 6 _ _ rfl rfl _ rfl
    rw [kn] at hx
    clear kn
    have kn : tm.getD 8 undef = .tuple #[.agg #[.int .i64 m0, .map g0], .bool z0] := fin 7 _ _ rfl rfl _ rfl
    rw [kn] at hx
    clear kn
    have kn : tm.getD 16 undef = .agg #[.int .i64 m0, .map g0] := fin 8 _ _ rfl rfl _ rfl
    rw [kn] at hx
    clear kn
    have kn : tm.getD 17 undef = .bool z0 := fin 9 _ _ rfl rfl _ rfl
    rw [kn] at hx
    clear kn
    have kn : tm.getD 6 undef = .pointer (some ⟨w.heap.size + 1, 0, none⟩) := fin 10 _ _ rfl rfl _ rfl
    rw [kn] at hx
    clear kn
    have kn : tm.getD 7 undef = .bool z0 := fin 12 _ _ rfl rfl _ rfl
    rw [kn] at hx
    clear kn
    clear fin
    simp only [List.setIfInBounds_toArray, List.set_cons_succ, List.set_cons_zero] at hx
    subst hx
    unfold phased at hph
    rw [if_pos rfl] at hph
    obtain ⟨_, hph⟩ := hph
    obtain rfl := hph
    rename_i left
    have X1 : Blk ((w.alloc (.cells #[.int .i64 t, .bool b, .string k, .int .i64 mode] 46)).drew.alloc (.cells #[.int .i64 m0, .map g0] 50)) w.heap.size 46 #[.int .i64 t, .bool b, .string k, .int .i64 mode] := (HX.out.drew).alloc _
    have X2 : Blk ((w.alloc (.cells #[.int .i64 t, .bool b, .string k, .int .i64 mode] 46)).drew.alloc (.cells #[.int .i64 m0, .map g0] 50)) (w.heap.size + 1) 50 #[.int .i64 m0, .map g0] := Blk.new_ _ _ _ (by simp)
    have XB : Below w.heap.size w ((w.alloc (.cells #[.int .i64 t, .bool b, .string k, .int .i64 mode] 46)).drew.alloc (.cells #[.int .i64 m0, .map g0] 50)) := (((Below.refl _ w).alloc (Nat.le_refl _) _).drew).alloc (by simp) _
    have XI := HI.out.below XB
    have XS : ((w.alloc (.cells #[.int .i64 t, .bool b, .string k, .int .i64 mode] 46)).drew.alloc (.cells #[.int .i64 m0, .map g0] 50)).heap.size = w.heap.size + 2 := by simp
    clear LB HX HL
    generalize ((w.alloc (.cells #[.int .i64 t, .bool b, .string k, .int .i64 mode] 46)).drew.alloc (.cells #[.int .i64 m0, .map g0] 50)) = w1 at *
    generalize hB : w.heap.size = B at *
    clear left
    generalize hB1 : B + 1 = B1 at *
    have hmm := @run_makeMap Try.prog
    rcases HC.out with ⟨rfl, hf, rfl⟩ | ⟨rfl, gg, rfl, hf⟩
    · have x0 := X1.cell 0 _ rfl
      have x1 := X1.cell 1 _ rfl
      have x2 := X1.cell 2 _ rfl
      have x3 := X1.cell 3 _ rfl
      have y0 := X2.cell 0 _ rfl
      have y1 := X2.cell 1 _ rfl
      have z0 := X2.frozen 0
      have z1 := X2.frozen 1
      have HS := hide XS
      have HX1 := hide X1
      have HX2 := hide X2
      have HXI := hide XI
      have HXB := hide XB
      have HF := hide hf
      have hlt1 := X1.lt
      have hlt2 := X2.lt
      clear X1 X2 XI XB XS hf HC
      go_upto_region 6 with (fail)
      have Y2 := hide (((HX2.out.set_ 0 (.int .i64 mode)).set_ 1 (.map (some w1.heap.size))).alloc (.map #[] 0))
      have Y1 := hide (((HX1.out.far (p := ⟨B1, 0, none⟩) (by show B ≠ B1; omega) (.int .i64 mode)).far (p := ⟨B1, 1, none⟩) (by show B ≠ B1; omega) (.map (some w1.heap.size))).alloc (.map #[] 0))
      have YB := hide (((HXB.out.setCell (p := ⟨B1, 0, none⟩) (by show B ≤ B1; omega) (.int .i64 mode)).setCell (p := ⟨B1, 1, none⟩) (by show B ≤ B1; omega) (.map (some w1.heap.size))).alloc (by simp; omega) (.map #[] 0))
      have YM : Hid (OwnM (((w1.setCell ⟨B1, 0, none⟩ (.int .i64 mode)).setCell ⟨B1, 1, none⟩ (.map (some w1.heap.size))).alloc (.map #[] 0)) w1.heap.size 0 (fun _ => false) 0) := hide (by
        have := MapG.new_ (K := ownK) (mk := unitV) ((w1.setCell ⟨B1, 0, none⟩ (.int .i64 mode)).setCell ⟨B1, 1, none⟩ (.map (some w1.heap.size)))
        rw [show ((w1.setCell ⟨B1, 0, none⟩ (.int .i64 mode)).setCell ⟨B1, 1, none⟩ (.map (some w1.heap.size))).heap.size = w1.heap.size by simp] at this
        exact this)
      obtain ⟨w3, hr, hm3, ht3⟩ := YM.out.store mapOwn (by unfold maxLen; omega) who hw ()
      rw [own1_put] at hm3
      have hr2 : (Instr.mapUpdate 48 (.map (some w1.heap.size)) (.int .i64 who) (.agg #[])).run Try.prog (((w1.setCell ⟨B1, 0, none⟩ (.int .i64 mode)).setCell ⟨B1, 1, none⟩ (.map (some w1.heap.size))).alloc (.map #[] 0)) = .ok () w3 := hr
      have hk3 := turned_kept ht3
      have hbw : Below B w w3 := YB.out.trans (hk3.below (by simp; omega) (fun k e => by omega))
      have TM : Hid (TakeM w w3 g mb n f S ⟨t, b, k⟩ mode w1.heap.size ⟨mode, fun i => decide (i = who) || false⟩) := hide (by
        have hI := HI.out.below (hB ▸ hbw)
        exact ⟨hI.blk, hI.map, ⟨rfl, _, hm3.more (by omega)⟩, fun y z hy hz => by (obtain ⟨ho, h1, h2, h3, _⟩ := hI.some_ y z hz; exact ⟨ho, h1, h2, h3⟩), .inl (by omega), HI.out, Kept.of_below (hB ▸ hbw)⟩)
      have Z1 := hide (hk3.blk Y1.out (show ¬ B = w1.heap.size by omega))
      have Z2 := hide (hk3.blk Y2.out (show ¬ B1 = w1.heap.size by omega))
      have q0 := Y2.out.cell 0 _ rfl
      have q1 := Y2.out.cell 1 _ rfl
      clear hr hm3 ht3 hk3 hbw YM YB Y1 Y2
      go_upto_region 7 with (fail)
      clear hr2 q0 q1
      refine region_store 7 [Say.is (.pointer (some ⟨g, 0, none⟩)), Say.is (.pointer (some ⟨g, 0, none⟩)), Say.is (.pointer (some ⟨g, 0, none⟩)), Say.is (.map (some mb)), Say.is (.pointer (some ⟨B, 0, none⟩)), Say.is (.agg #[.int .i64 t, .bool b, .string k]), Say.is (.agg #[.int .i64 mode, .map (some w1.heap.size)])] (fun w9 => ∃ u c, Below w3.heap.size w3 u ∧ MapG thK Hd.v w9 mb (n + 1) (fun y => if y = ⟨t, b, k⟩ then some ⟨mode, w1.heap.size⟩ else f y) c ∧ u.mapTurned w9 mb) rfl rfl rfl rfl (by kernel_rfl) (by kernel_rfl) (by kernel_rfl) (by kernel_rfl) (by kernel_rfl) ?_ ?_ ?_
      · intro i o hik ho a w2 hb hsz old dep
        match i, ho with
        | 0, ho =>
          obtain rfl := Option.some.inj ho
          have o0 : a.tmps.getD 0 undef = _ := old 0 (by kernel_rfl)
          rw [if_pos (wanted_none rfl)]
          refine grow_same (v := .pointer (some ⟨g, 0, none⟩)) ?_ rfl
          clear old dep ho hsz hb
          go_simp
        | 1, ho =>
          obtain rfl := Option.some.inj ho
          have d0 : a.tmps.getD 34 undef = .pointer (some ⟨g, 0, none⟩) := dep 0 _ _ (by kernel_rfl) rfl rfl
          have e0 : a.tmps[34]?.getD undef = _ := (Array.getD_eq_getD_getElem? ..).symm.trans d0
          rw [if_pos (wanted_none rfl)]
          refine grow_same (v := .pointer (some ⟨g, 0, none⟩)) ?_ rfl
          clear old dep ho hsz hb
          go_simp
        | 2, ho =>
          obtain rfl := Option.some.inj ho
          have d1 : a.tmps.getD 35 undef = .pointer (some ⟨g, 0, none⟩) := dep 1 _ _ (by kernel_rfl) rfl rfl
          have e1 : a.tmps[35]?.getD undef = _ := (Array.getD_eq_getD_getElem? ..).symm.trans d1
          rw [if_pos (wanted_none rfl)]
          refine grow_same (v := .pointer (some ⟨g, 0, none⟩)) ?_ rfl
          clear old dep ho hsz hb
          go_simp
        | 3, ho =>
          obtain rfl := Option.some.inj ho
          have d2 : a.tmps.getD 36 undef = .pointer (some ⟨g, 0, none⟩) := dep 2 _ _ (by kernel_rfl) rfl rfl
          have e2 : a.tmps[36]?.getD undef = _ := (Array.getD_eq_getD_getElem? ..).symm.trans d2
          rw [if_pos (wanted_none rfl)]
          have c0 := (TM.out.below hb).blk.cell 0 _ rfl
          refine grow_same (v := .map (some mb)) ?_ rfl
          clear old dep ho hsz hb
          go_simp
        | 4, ho =>
          obtain rfl := Option.some.inj ho
          have o5 : a.tmps.getD 5 undef = _ := old 5 (by kernel_rfl)
          rw [if_pos (wanted_none rfl)]
          refine grow_same (v := .pointer (some ⟨B, 0, none⟩)) ?_ rfl
          clear old dep ho hsz hb
          go_simp
        | 5, ho =>
          obtain rfl := Option.some.inj ho
          have d4 : a.tmps.getD 38 undef = .pointer (some ⟨B, 0, none⟩) := dep 4 _ _ (by kernel_rfl) rfl rfl
          have e4 : a.tmps[38]?.getD undef = _ := (Array.getD_eq_getD_getElem? ..).symm.trans d4
          rw [if_pos (wanted_none rfl)]
          have c0 := (Z1.out.below hb).cell 0 _ rfl
          have c1 := (Z1.out.below hb).cell 1 _ rfl
          have c2 := (Z1.out.below hb).cell 2 _ rfl
          refine grow_same (v := .agg #[.int .i64 t, .bool b, .string k]) ?_ rfl
          clear old dep ho hsz hb
          go_simp
        | 6, ho =>
          obtain rfl := Option.some.inj ho
          have o6 : a.tmps.getD 6 undef = _ := old 6 (by kernel_rfl)
          rw [if_pos (wanted_none rfl)]
          have c0 := (Z2.out.below hb).cell 0 _ rfl
          have c1 := (Z2.out.below hb).cell 1 _ rfl
          refine grow_same (v := .agg #[.int .i64 mode, .map (some w1.heap.size)]) ?_ rfl
          clear old dep ho hsz hb
          go_simp
        | i + 7, ho => exact absurd hik (by omega)
      · intro a w2 hb hsz old dep
        have d3 : a.tmps.getD 37 undef = .map (some mb) := dep 3 _ _ (by kernel_rfl) rfl rfl
        have e3 : a.tmps[37]?.getD undef = _ := (Array.getD_eq_getD_getElem? ..).symm.trans d3
        have d5 : a.tmps.getD 39 undef = .agg #[.int .i64 t, .bool b, .string k] := dep 5 _ _ (by kernel_rfl) rfl rfl
        have e5 : a.tmps[39]?.getD undef = _ := (Array.getD_eq_getD_getElem? ..).symm.trans d5
        have d6 : a.tmps.getD 40 undef = .agg #[.int .i64 mode, .map (some w1.heap.size)] := dep 6 _ _ (by kernel_rfl) rfl rfl
        have e6 : a.tmps[40]?.getD undef = _ := (Array.getD_eq_getD_getElem? ..).symm.trans d6
        obtain ⟨c, hm⟩ := (TM.out.below hb).map
        obtain ⟨w9, hr, hm9, ht9⟩ := hm.store mapHold (by unfold maxLen; omega) ⟨t, b, k⟩ hx ⟨mode, w1.heap.size⟩
        refine ⟨w9, ?_, w2, _, hb, hm9, ht9⟩
        have hr2 : (Instr.mapUpdate 39 (.map (some mb)) (.agg #[.int .i64 t, .bool b, .string k]) (.agg #[.int .i64 mode, .map (some w1.heap.size)])).run Try.prog w2 = .ok () w9 := hr
        clear old dep hsz hb hm hr hm9 ht9
        go_simp
      · intro a w4 hR hsz hdf keep
        obtain ⟨tm, df⟩ := a
        have hx := frame_of [34, 35, 36, 37, 38, 39, 40] (by kernel_rfl) hsz keep
        dsimp only at hdf hx
        simp only [List.foldl_cons, List.foldl_nil] at hx
        subst hdf
        clear hsz keep
        generalize tm.getD 34 undef = y34 at hx
        generalize tm.getD 35 undef = y35 at hx
        generalize tm.getD 36 undef = y36 at hx
        generalize tm.getD 37 undef = y37 at hx
        generalize tm.getD 38 undef = y38 at hx
        generalize tm.getD 39 undef = y39 at hx
        generalize tm.getD 40 undef = y40 at hx
        simp only [List.setIfInBounds_toArray, List.set_cons_succ, List.set_cons_zero] at hx
        subst hx
        obtain ⟨u, c, hb, hm4, ht4⟩ := hR
        have HK := hide ((TM.out.below hb).end_ hm4 ht4 (takeS_none (HI.out.none_ _ HF.out)))
        clear hb hm4 ht4 TM Z1 Z2
        go_wp2
        go_end0
        exact ⟨rfl, by (have := HK.out; first | exact this | (rw [hB] at this; exact this))⟩
    · have x0 := X1.cell 0 _ rfl
      have x1 := X1.cell 1 _ rfl
      have x2 := X1.cell 2 _ rfl
      have x3 := X1.cell 3 _ rfl
      have y0 := X2.cell 0 _ rfl
      have y1 := X2.cell 1 _ rfl
      have z0 := X2.frozen 0
      have z1 := X2.frozen 1
      have HS := hide XS
      have HX1 := hide X1
      have HX2 := hide X2
      have HXI := hide XI
      have HXB := hide XB
      have HF := hide hf
      have hlt1 := X1.lt
      have hlt2 := X2.lt
      clear X1 X2 XI XB XS hf HC hmm
      cases he : (m0 != mode)
      · have hE : m0 = mode := by simpa using he
        have HE := hide hE
        clear hE
        have Y2 := hide (HX2.out)
        have Y1 := hide (HX1.out)
        have YB := hide (HXB.out)
        obtain ⟨ho, hS, hmm0, ⟨c0, hown⟩, hng, hnm⟩ := HI.out.some_ _ _ HF.out
        have hmo : ho.m = m0 := hmm0.symm
        have hown2 := hown.below (hB ▸ YB.out)
        obtain ⟨w3, hr, hm3, ht3⟩ := hown2.store mapOwn (by unfold maxLen; omega) who hw ()
        rw [own1_put] at hm3
        have hr2 : (Instr.mapUpdate 48 (.map (some gg)) (.int .i64 who) (.agg #[])).run Try.prog (w1) = .ok () w3 := hr
        have hk3 := turned_kept ht3
        have hgb : gg < B := by
          have := hown.lt
          simp only at this
          omega
        have TM : Hid (TakeM w w3 g mb n f S ⟨t, b, k⟩ (m0) gg ⟨if ho.m = mode then mode else 3, fun i => decide (i = who) || ho.o i⟩) := hide (by
          have hI := HI.out.below (hB ▸ YB.out)
          refine ⟨hk3.blk hI.blk (fun e => hng e.symm), ?_, ⟨by rw [hmo, if_pos HE.out, HE.out], _, hm3⟩, fun y z hy hz => ?_, .inr ⟨m0, HF.out⟩, HI.out, (Kept.of_below (hB ▸ YB.out)).trans hk3 (fun i hi => .inl (.inr (.inr ⟨_, _, HF.out, hi⟩)))⟩
          · obtain ⟨c, hm⟩ := hI.map
            exact ⟨c, hm.same (hk3.block mb hm.lt (fun e => hnm e.symm))⟩
          · obtain ⟨ho, h1, h2, ⟨c, h3⟩, _⟩ := hI.some_ y z hz
            exact ⟨ho, h1, h2, c, h3.same (hk3.block z.g h3.lt (fun e => hy (HI.out.apart y _ z _ hz HF.out e)))⟩)
        have Z1 := hide (hk3.blk Y1.out (show ¬ B = gg by omega))
        have Z2 := hide (hk3.blk Y2.out (show ¬ B1 = gg by omega))
        have HSS := hide hS
        have q0 := Y2.out.cell 0 _ rfl
        have q1 := Y2.out.cell 1 _ rfl
        clear hr hm3 ht3 hk3 hown hown2 YB Y1 Y2 hS hmo hmm0
        go_upto_region 7 with (fail)
        clear hr2 q0 q1
        refine region_store 7 [Say.is (.pointer (some ⟨g, 0, none⟩)), Say.is (.pointer (some ⟨g, 0, none⟩)), Say.is (.pointer (some ⟨g, 0, none⟩)), Say.is (.map (some mb)), Say.is (.pointer (some ⟨B, 0, none⟩)), Say.is (.agg #[.int .i64 t, .bool b, .string k]), Say.is (.agg #[.int .i64 m0, .map (some gg)])] (fun w9 => ∃ u c, Below w3.heap.size w3 u ∧ MapG thK Hd.v w9 mb (n + 1) (fun y => if y = ⟨t, b, k⟩ then some ⟨m0, gg⟩ else f y) c ∧ u.mapTurned w9 mb) rfl rfl rfl rfl (by kernel_rfl) (by kernel_rfl) (by kernel_rfl) (by kernel_rfl) (by kernel_rfl) ?_ ?_ ?_
        · intro i o hik ho a w2 hb hsz old dep
          match i, ho with
          | 0, ho =>
            obtain rfl := Option.some.inj ho
            have o0 : a.tmps.getD 0 undef = _ := old 0 (by kernel_rfl)
            rw [if_pos (wanted_none rfl)]
            refine grow_same (v := .pointer (some ⟨g, 0, none⟩)) ?_ rfl
            clear old dep ho hsz hb
            go_simp
          | 1, ho =>
            obtain rfl := Option.some.inj ho
            have d0 : a.tmps.getD 34 undef = .pointer (some ⟨g, 0, none⟩) := dep 0 _ _ (by kernel_rfl) rfl rfl
            have e0 : a.tmps[34]?.getD undef = _ := (Array.getD_eq_getD_getElem? ..).symm.trans d0
            rw [if_pos (wanted_none rfl)]
            refine grow_same (v := .pointer (some ⟨g, 0, none⟩)) ?_ rfl
            clear old dep ho hsz hb
            go_simp
          | 2, ho =>
            obtain rfl := Option.some.inj ho
            have d1 : a.tmps.getD 35 undef = .pointer (some ⟨g, 0, none⟩) := dep 1 _ _ (by kernel_rfl) rfl rfl
            have e1 : a.tmps[35]?.getD undef = _ := (Array.getD_eq_getD_getElem? ..).symm.trans d1
            rw [if_pos (wanted_none rfl)]
            refine grow_same (v := .pointer (some ⟨g, 0, none⟩)) ?_ rfl
            clear old dep ho hsz hb
            go_simp
          | 3, ho =>
            obtain rfl := Option.some.inj ho
            have d2 : a.tmps.getD 36 undef = .pointer (some ⟨g, 0, none⟩) := dep 2 _ _ (by kernel_rfl) rfl rfl
            have e2 : a.tmps[36]?.getD undef = _ := (Array.getD_eq_getD_getElem? ..).symm.trans d2
            rw [if_pos (wanted_none rfl)]
            have c0 := (TM.out.below hb).blk.cell 0 _ rfl
            refine grow_same (v := .map (some mb)) ?_ rfl
            clear old dep ho hsz hb
            go_simp
          | 4, ho =>
            obtain rfl := Option.some.inj ho
            have o5 : a.tmps.getD 5 undef = _ := old 5 (by kernel_rfl)
            rw [if_pos (wanted_none rfl)]
            refine grow_same (v := .pointer (some ⟨B, 0, none⟩)) ?_ rfl
            clear old dep ho hsz hb
            go_simp
          | 5, ho =>
            obtain rfl := Option.some.inj ho
            have d4 : a.tmps.getD 38 undef = .pointer (some ⟨B, 0, none⟩) := dep 4 _ _ (by kernel_rfl) rfl rfl
            have e4 : a.tmps[38]?.getD undef = _ := (Array.getD_eq_getD_getElem? ..).symm.trans d4
            rw [if_pos (wanted_none rfl)]
            have c0 := (Z1.out.below hb).cell 0 _ rfl
            have c1 := (Z1.out.below hb).cell 1 _ rfl
            have c2 := (Z1.out.below hb).cell 2 _ rfl
            refine grow_same (v := .agg #[.int .i64 t, .bool b, .string k]) ?_ rfl
            clear old dep ho hsz hb
            go_simp
          | 6, ho =>
            obtain rfl := Option.some.inj ho
            have o6 : a.tmps.getD 6 undef = _ := old 6 (by kernel_rfl)
            rw [if_pos (wanted_none rfl)]
            have c0 := (Z2.out.below hb).cell 0 _ rfl
            have c1 := (Z2.out.below hb).cell 1 _ rfl
            refine grow_same (v := .agg #[.int .i64 m0, .map (some gg)]) ?_ rfl
            clear old dep ho hsz hb
            go_simp
          | i + 7, ho => exact absurd hik (by omega)
        · intro a w2 hb hsz old dep
          have d3 : a.tmps.getD 37 undef = .map (some mb) := dep 3 _ _ (by kernel_rfl) rfl rfl
          have e3 : a.tmps[37]?.getD undef = _ := (Array.getD_eq_getD_getElem? ..).symm.trans d3
          have d5 : a.tmps.getD 39 undef = .agg #[.int .i64 t, .bool b, .string k] := dep 5 _ _ (by kernel_rfl) rfl rfl
          have e5 : a.tmps[39]?.getD undef = _ := (Array.getD_eq_getD_getElem? ..).symm.trans d5
          have d6 : a.tmps.getD 40 undef = .agg #[.int .i64 m0, .map (some gg)] := dep 6 _ _ (by kernel_rfl) rfl rfl
          have e6 : a.tmps[40]?.getD undef = _ := (Array.getD_eq_getD_getElem? ..).symm.trans d6
          obtain ⟨c, hm⟩ := (TM.out.below hb).map
          obtain ⟨w9, hr, hm9, ht9⟩ := hm.store mapHold (by unfold maxLen; omega) ⟨t, b, k⟩ hx ⟨m0, gg⟩
          refine ⟨w9, ?_, w2, _, hb, hm9, ht9⟩
          have hr2 : (Instr.mapUpdate 39 (.map (some mb)) (.agg #[.int .i64 t, .bool b, .string k]) (.agg #[.int .i64 m0, .map (some gg)])).run Try.prog w2 = .ok () w9 := hr
          clear old dep hsz hb hm hr hm9 ht9
          go_simp
        · intro a w4 hR hsz hdf keep
          obtain ⟨tm, df⟩ := a
          have hx := frame_of [34, 35, 36, 37, 38, 39, 40] (by kernel_rfl) hsz keep
          dsimp only at hdf hx
          simp only [List.foldl_cons, List.foldl_nil] at hx
          subst hdf
          clear hsz keep
          generalize tm.getD 34 undef = y34 at hx
          generalize tm.getD 35 undef = y35 at hx
          generalize tm.getD 36 undef = y36 at hx
          generalize tm.getD 37 undef = y37 at hx
          generalize tm.getD 38 undef = y38 at hx
          generalize tm.getD 39 undef = y39 at hx
          generalize tm.getD 40 undef = y40 at hx
          simp only [List.setIfInBounds_toArray, List.set_cons_succ, List.set_cons_zero] at hx
          subst hx
          obtain ⟨u, c, hb, hm4, ht4⟩ := hR
          have HK := hide ((TM.out.below hb).end_ hm4 ht4 (takeS_some HSS.out))
          clear hb hm4 ht4 TM Z1 Z2
          go_wp2
          go_end0
          exact ⟨rfl, by (have := HK.out; first | exact this | (rw [hB] at this; exact this))⟩
      · have hE : ¬ m0 = mode := by simpa using he
        have HE := hide hE
        clear hE
        have Y2 := hide (HX2.out.set_ 0 (.int .i64 3))
        have Y1 := hide (HX1.out.far (p := ⟨B1, 0, none⟩) (by show B ≠ B1; omega) (.int .i64 3))
        have YB := hide (HXB.out.setCell (p := ⟨B1, 0, none⟩) (by show B ≤ B1; omega) (.int .i64 3))
        obtain ⟨ho, hS, hmm0, ⟨c0, hown⟩, hng, hnm⟩ := HI.out.some_ _ _ HF.out
        have hmo : ho.m = m0 := hmm0.symm
        have hown2 := hown.below (hB ▸ YB.out)
        obtain ⟨w3, hr, hm3, ht3⟩ := hown2.store mapOwn (by unfold maxLen; omega) who hw ()
        rw [own1_put] at hm3
        have hr2 : (Instr.mapUpdate 48 (.map (some gg)) (.int .i64 who) (.agg #[])).run Try.prog (w1.setCell ⟨B1, 0, none⟩ (.int .i64 3)) = .ok () w3 := hr
        have hk3 := turned_kept ht3
        have hgb : gg < B := by
          have := hown.lt
          simp only at this
          omega
        have TM : Hid (TakeM w w3 g mb n f S ⟨t, b, k⟩ (3) gg ⟨if ho.m = mode then mode else 3, fun i => decide (i = who) || ho.o i⟩) := hide (by
          have hI := HI.out.below (hB ▸ YB.out)
          refine ⟨hk3.blk hI.blk (fun e => hng e.symm), ?_, ⟨by rw [hmo, if_neg HE.out], _, hm3⟩, fun y z hy hz => ?_, .inr ⟨m0, HF.out⟩, HI.out, (Kept.of_below (hB ▸ YB.out)).trans hk3 (fun i hi => .inl (.inr (.inr ⟨_, _, HF.out, hi⟩)))⟩
          · obtain ⟨c, hm⟩ := hI.map
            exact ⟨c, hm.same (hk3.block mb hm.lt (fun e => hnm e.symm))⟩
          · obtain ⟨ho, h1, h2, ⟨c, h3⟩, _⟩ := hI.some_ y z hz
            exact ⟨ho, h1, h2, c, h3.same (hk3.block z.g h3.lt (fun e => hy (HI.out.apart y _ z _ hz HF.out e)))⟩)
        have Z1 := hide (hk3.blk Y1.out (show ¬ B = gg by omega))
        have Z2 := hide (hk3.blk Y2.out (show ¬ B1 = gg by omega))
        have HSS := hide hS
        have q0 := Y2.out.cell 0 _ rfl
        have q1 := Y2.out.cell 1 _ rfl
        clear hr hm3 ht3 hk3 hown hown2 YB Y1 Y2 hS hmo hmm0
        go_upto_region 7 with (fail)
        clear hr2 q0 q1
        refine region_store 7 [Say.is (.pointer (some ⟨g, 0, none⟩)), Say.is (.pointer (some ⟨g, 0, none⟩)), Say.is (.pointer (some ⟨g, 0, none⟩)), Say.is (.map (some mb)), Say.is (.pointer (some ⟨B, 0, none⟩)), Say.is (.agg #[.int .i64 t, .bool b, .string k]), Say.is (.agg #[.int .i64 3, .map (some gg)])] (fun w9 => ∃ u c, Below w3.heap.size w3 u ∧ MapG thK Hd.v w9 mb (n + 1) (fun y => if y = ⟨t, b, k⟩ then some ⟨3, gg⟩ else f y) c ∧ u.mapTurned w9 mb) rfl rfl rfl rfl (by kernel_rfl) (by kernel_rfl) (by kernel_rfl) (by kernel_rfl) (by kernel_rfl) ?_ ?_ ?_
        · intro i o hik ho a w2 hb hsz old dep
          match i, ho with
          | 0, ho =>
            obtain rfl := Option.some.inj ho
            have o0 : a.tmps.getD 0 undef = _ := old 0 (by kernel_rfl)
            rw [if_pos (wanted_none rfl)]
            refine grow_same (v := .pointer (some ⟨g, 0, none⟩)) ?_ rfl
            clear old dep ho hsz hb
            go_simp
          | 1, ho =>
            obtain rfl := Option.some.inj ho
            have d0 : a.tmps.getD 34 undef = .pointer (some ⟨g, 0, none⟩) := dep 0 _ _ (by kernel_rfl) rfl rfl
            have e0 : a.tmps[34]?.getD undef = _ := (Array.getD_eq_getD_getElem? ..).symm.trans d0
            rw [if_pos (wanted_none rfl)]
            refine grow_same (v := .pointer (some ⟨g, 0, none⟩)) ?_ rfl
            clear old dep ho hsz hb
            go_simp
          | 2, ho =>
            obtain rfl := Option.some.inj ho
            have d1 : a.tmps.getD 35 undef = .pointer (some ⟨g, 0, none⟩) := dep 1 _ _ (by kernel_rfl) rfl rfl
            have e1 : a.tmps[35]?.getD undef = _ := (Array.getD_eq_getD_getElem? ..).symm.trans d1
            rw [if_pos (wanted_none rfl)]
            refine grow_same (v := .pointer (some ⟨g, 0, none⟩)) ?_ rfl
            clear old dep ho hsz hb
            go_simp
          | 3, ho =>
            obtain rfl := Option.some.inj ho
            have d2 : a.tmps.getD 36 undef = .pointer (some ⟨g, 0, none⟩) := dep 2 _ _ (by kernel_rfl) rfl rfl
            have e2 : a.tmps[36]?.getD undef = _ := (Array.getD_eq_getD_getElem? ..).symm.trans d2
            rw [if_pos (wanted_none rfl)]
            have c0 := (TM.out.below hb).blk.cell 0 _ rfl
            refine grow_same (v := .map (some mb)) ?_ rfl
            clear old dep ho hsz hb
            go_simp
          | 4, ho =>
            obtain rfl := Option.some.inj ho
            have o5 : a.tmps.getD 5 undef = _ := old 5 (by kernel_rfl)
            rw [if_pos (wanted_none rfl)]
            refine grow_same (v := .pointer (some ⟨B, 0, none⟩)) ?_ rfl
            clear old dep ho hsz hb
            go_simp
          | 5, ho =>
            obtain rfl := Option.some.inj ho
            have d4 : a.tmps.getD 38 undef = .pointer (some ⟨B, 0, none⟩) := dep 4 _ _ (by kernel_rfl) rfl rfl
            have e4 : a.tmps[38]?.getD undef = _ := (Array.getD_eq_getD_getElem? ..).symm.trans d4
            rw [if_pos (wanted_none rfl)]
            have c0 := (Z1.out.below hb).cell 0 _ rfl
            have c1 := (Z1.out.below hb).cell 1 _ rfl
            have c2 := (Z1.out.below hb).cell 2 _ rfl
            refine grow_same (v := .agg #[.int .i64 t, .bool b, .string k]) ?_ rfl
            clear old dep ho hsz hb
            go_simp
          | 6, ho =>
            obtain rfl := Option.some.inj ho
            have o6 : a.tmps.getD 6 undef = _ := old 6 (by kernel_rfl)
            rw [if_pos (wanted_none rfl)]
            have c0 := (Z2.out.below hb).cell 0 _ rfl
            have c1 := (Z2.out.below hb).cell 1 _ rfl
            refine grow_same (v := .agg #[.int .i64 3, .map (some gg)]) ?_ rfl
            clear old dep ho hsz hb
            go_simp
          | i + 7, ho => exact absurd hik (by omega)
        · intro a w2 hb hsz old dep
          have d3 : a.tmps.getD 37 undef = .map (some mb) := dep 3 _ _ (by kernel_rfl) rfl rfl
          have e3 : a.tmps[37]?.getD undef = _ := (Array.getD_eq_getD_getElem? ..).symm.trans d3
          have d5 : a.tmps.getD 39 undef = .agg #[.int .i64 t, .bool b, .string k] := dep 5 _ _ (by kernel_rfl) rfl rfl
          have e5 : a.tmps[39]?.getD undef = _ := (Array.getD_eq_getD_getElem? ..).symm.trans d5
          have d6 : a.tmps.getD 40 undef = .agg #[.int .i64 3, .map (some gg)] := dep 6 _ _ (by kernel_rfl) rfl rfl
          have e6 : a.tmps[40]?.getD undef = _ := (Array.getD_eq_getD_getElem? ..).symm.trans d6
          obtain ⟨c, hm⟩ := (TM.out.below hb).map
          obtain ⟨w9, hr, hm9, ht9⟩ := hm.store mapHold (by unfold maxLen; omega) ⟨t, b, k⟩ hx ⟨3, gg⟩
          refine ⟨w9, ?_, w2, _, hb, hm9, ht9⟩
          have hr2 : (Instr.mapUpdate 39 (.map (some mb)) (.agg #[.int .i64 t, .bool b, .string k]) (.agg #[.int .i64 3, .map (some gg)])).run Try.prog w2 = .ok () w9 := hr
          clear old dep hsz hb hm hr hm9 ht9
          go_simp
        · intro a w4 hR hsz hdf keep
          obtain ⟨tm, df⟩ := a
          have hx := frame_of [34, 35, 36, 37, 38, 39, 40] (by kernel_rfl) hsz keep
          dsimp only at hdf hx
          simp only [List.foldl_cons, List.foldl_nil] at hx
          subst hdf
          clear hsz keep
          generalize tm.getD 34 undef = y34 at hx
          generalize tm.getD 35 undef = y35 at hx
          generalize tm.getD 36 undef = y36 at hx
          generalize tm.getD 37 undef = y37 at hx
          generalize tm.getD 38 undef = y38 at hx
          generalize tm.getD 39 undef = y39 at hx
          generalize tm.getD 40 undef = y40 at hx
          simp only [List.setIfInBounds_toArray, List.set_cons_succ, List.set_cons_zero] at hx
          subst hx
          obtain ⟨u, c, hb, hm4, ht4⟩ := hR
          have HK := hide ((TM.out.below hb).end_ hm4 ht4 (takeS_some HSS.out))
          clear hb hm4 ht4 TM Z1 Z2
          go_wp2
          go_end0
          exact ⟨rfl, by (have := HK.out; first | exact this | (rw [hB] at this; exact this))⟩
end Go.Proofs.Ytdoeinofcklnhaa
