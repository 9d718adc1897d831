/-
  Contracts of Push and Save.
-/
import Derived.Test.YtkegfedbffhnfaaClone
namespace Go.Proofs.Ytkegfedbffhnfaa
open Go.RowKit Go.Lib
set_option maxRecDepth 20000
set_option linter.unusedSimpArgs false
set_option linter.unusedVariables false

/-- Behind a call on one. -/
def TxQ (y : Lay) (w w' : World) (x : Nat) (A B : Value) (t' : Tx) : Prop := Kept (txB x A B) w w' ∧ ∃ A' B', TxP y w' x A' B' t' ∧ ∀ k, txB x A' B' k → txB x A B k ∨ w.heap.size ≤ k
theorem TxQ.in_ {y : Lay} {w w' : World} {x : Nat} {A B : Value} {t' : Tx} {O : Nat → Prop} (h : TxQ y w w' x A B t') (hO : ∀ k, txB x A B k → O k) : Kept O w w' ∧ TxIn y w' x t' (fun k => O k ∨ w.heap.size ≤ k) := by
  obtain ⟨h1, A', B', h2, h3⟩ := h
  exact ⟨h1.mono (fun k hk => .inl (hO k hk)), A', B', h2, fun k hk => (h3 k hk).imp (hO k) id⟩
def Tx.push (t : Tx) (c : Ch) : Tx := ⟨t.l ++ [c], t.ops + 1, t.sv⟩
def Tx.saved (t : Tx) : Tx := if t.sv.length < 4 then ⟨t.l, t.ops, t.sv ++ [t.l.length]⟩ else t
def Tx.saveN (t : Tx) : Nat := if t.sv.length < 4 then t.sv.length + 1 else 0
theorem push_nil (c : Ch) (w : World) : Calls Try.prog 13 #[.pointer none, .agg #[.int .i64 c.page, .int .i64 c.slot, .string c.before]] w fun e w' => e = .returned (.tuple #[]) ∧ Below w.heap.size w w' := by
  go_enter Try.func13, Try.ntmps13
  go_wp2
  refine bodyPost_ret (results_none rfl _ _ _) rfl ?_
  exact ⟨rfl, (Below.refl _ _).alloc (Nat.le_refl _) _⟩
theorem save_nil (w : World) : Calls Try.prog 15 #[.pointer none] w fun e w' => e = .returned (.int .i64 0) ∧ w = w' := by
  go_enter Try.func15, Try.ntmps15
  go_wp2
  go_ret
  exact ⟨rfl, rfl⟩
theorem push_x {w : World} {x : Nat} {A B : Value} {t : Tx} (h : TxP layT w x A B t) (hl : t.l.length ≤ 100000) (ho : t.ops ≤ 100000) (ch : Ch) :
    Calls Try.prog 13 #[.pointer (some ⟨x, 0, none⟩), .agg #[.int .i64 ch.page, .int .i64 ch.slot, .string ch.before]] w fun e w' => e = .returned (.tuple #[]) ∧ TxQ layT w w' x A B (t.push ch) := by
  obtain ⟨Aa, c, rfl⟩ := h.l.form
  obtain ⟨p, s, b⟩ := ch
  dsimp only
  have HT0 := hide (h.below ((Below.refl _ w).alloc (Nat.le_refl _) (.cells #[.int .i64 p, .int .i64 s, .string b] 31)))
  have HX := hide (Blk.new_ w #[.int .i64 p, .int .i64 s, .string b] 31 rfl)
  have hbel : Below w.heap.size w ((w.alloc (.cells #[.int .i64 p, .int .i64 s, .string b] 31)).drew.alloc (.cells #[.int .i64 p, .int .i64 s, .string b] 31)) := ((Below.refl _ w).alloc (Nat.le_refl _) (.cells #[.int .i64 p, .int .i64 s, .string b] 31)).drew.alloc (by simp) _
  have h1 := h.below hbel
  obtain ⟨v', w9, hrun, hr, hg, hv⟩ := run_append_k (K := chK) (w := ((w.alloc (.cells #[.int .i64 p, .int .i64 s, .string b] 31)).drew.alloc (.cells #[.int .i64 p, .int .i64 s, .string b] 31))) (b := (w.alloc (.cells #[.int .i64 p, .int .i64 s, .string b] 31)).heap.size) (c := 1) (x := ⟨p, s, b⟩) h1.l hl (fun i u hu => (Blk.new_ (w.alloc (.cells #[.int .i64 p, .int .i64 s, .string b] 31)).drew #[.int .i64 p, .int .i64 s, .string b] 31 rfl : Blk ((w.alloc (.cells #[.int .i64 p, .int .i64 s, .string b] 31)).drew.alloc (.cells #[.int .i64 p, .int .i64 s, .string b] 31)) (w.alloc (.cells #[.int .i64 p, .int .i64 s, .string b] 31)).heap.size 31 #[.int .i64 p, .int .i64 s, .string b]).cell i u (by rw [← hu, ← Array.getElem?_toList]; rfl)) 35
  have HRUN : Hid ((Builtin.append_ #[35, 35] 35 #[.slice Aa t.l.length c, .slice (some ⟨(w.alloc (.cells #[.int .i64 p, .int .i64 s, .string b] 31)).heap.size, 0, none⟩) 1 1]).run Try.prog ((w.alloc (.cells #[.int .i64 p, .int .i64 s, .string b] 31)).drew.alloc (.cells #[.int .i64 p, .int .i64 s, .string b] 31)) = .ok v' w9) := hide hrun
  have hk9 : Kept (fun k => (Value.slice Aa t.l.length c).ownBlock = some k) ((w.alloc (.cells #[.int .i64 p, .int .i64 s, .string b] 31)).drew.alloc (.cells #[.int .i64 p, .int .i64 s, .string b] 31)) w9 := (Kept.of_grown hg).mono (fun k e => .inl e)
  have hl9 := hk9.blk h1.blk (fun e => h1.ax x e rfl)
  have HCELL : Hid ((∃ u, w9.cell? ⟨x, 0, none⟩ = some u) ∧ w9.frozen? ⟨x, 0, none⟩ = false) := hide ⟨⟨_, hl9.cell 0 _ rfl⟩, hl9.frozen 0⟩
  obtain ⟨hp3, hk3, hn3⟩ := h1.lSet hk9 hr (fun k e => by
    rcases hv with hv | hv
    · exact .inl (hv ▸ e)
    · rw [hv] at e
      exact .inr (by have := Option.some.inj e; omega))
  have hs1 := hbel.size
  obtain ⟨An, cn, en⟩ := hr.form
  rw [List.length_append, List.length_singleton] at en
  subst en
  have HQ : Hid (TxQ layT w ((w9.setCell ⟨x, 0, none⟩ (.slice An (t.l.length + 1) cn)).setCell ⟨x, 1, none⟩ (.int .i64 ((t.ops + 1 : Nat) : Int))) x (.slice Aa t.l.length c) B (t.push ⟨p, s, b⟩)) := hide ⟨((Kept.of_below hbel).trans hk3 (fun k hk => .inl hk)).trans (Kept.setCell _ ⟨x, 1, none⟩ _) (fun k e => .inl (.inl e)), .slice An (t.l.length + 1) cn, B, hp3.opsSet (t.ops + 1), fun k hk => (hn3 k hk).imp id (fun h => Nat.le_trans hs1 h)⟩
  obtain ⟨_, q1, _⟩ := hp3.cells
  have q1 : (w9.setCell ⟨x, 0, none⟩ (.slice An (t.l.length + 1) cn)).cell? ⟨x, 1, none⟩ = some (.int .i64 (t.ops : Int)) := q1
  have qf := hp3.blk.frozen 1
  have HQ1 := hide q1
  have HQF := hide qf
  have hoi : (t.ops : Int) + 1 ≤ 9223372036854775807 := by omega
  have ho0 : (0 : Int) ≤ (t.ops : Int) := by omega
  clear hrun hr hg hv hk9 hl9 hp3 hk3 hn3 hs1 hbel h1 h hl ho q1 qf
  go_enter Try.func13, Try.ntmps13
  go_upto_region 2 with (fail)
  refine region_phases (valV [some (.pointer (some ⟨x, 0, none⟩)), some (.pointer (some ⟨x, 0, none⟩)), some (.pointer (some ⟨x, 0, none⟩)), some (.pointer (some ⟨x, 0, none⟩)), some (.slice Aa t.l.length c), some (.agg #[.int .i64 p, .int .i64 s, .string b]), some (.slice (some ⟨(w.alloc (.cells #[.int .i64 p, .int .i64 s, .string b] 31)).heap.size, 0, none⟩) 1 1), some (.slice An (t.l.length + 1) cn), some (.pointer (some ⟨x, 0, none⟩)), some (.pointer (some ⟨x, 0, none⟩)), none]) (phased [⟨10, 9, fun _ w2 => w2 = (w9.setCell ⟨x, 0, none⟩ (.slice An (t.l.length + 1) cn))⟩, ⟨7, 7, fun _ w2 => w2 = w9⟩, ⟨6, 6, fun _ w2 => w2 = ((w.alloc (.cells #[.int .i64 p, .int .i64 s, .string b] 31)).drew.alloc (.cells #[.int .i64 p, .int .i64 s, .string b] 31))⟩] (fun w2 => w2 = (w.alloc (.cells #[.int .i64 p, .int .i64 s, .string b] 31)).drew)) (by kernel_rfl) (by kernel_rfl) (by kernel_rfl) (by kernel_rfl) (phased_ext (by kernel_rfl)) (rfl) ?_ ?_
  · intro i o ho L a w2 hph hsz hLi hnot hyes old dep
    match i, ho with
    | 0, ho =>
      obtain rfl := Option.some.inj ho
      rw [if_pos (wanted_none rfl)]
      have o0 := old 0 (by kernel_rfl)
      refine wp_yields (v := .pointer (some ⟨x, 0, none⟩)) (w' := w2) ?_ (fun u hu => Option.some.inj (Option.some.inj hu)) (phased_quiet hLi (by rfl) hph)
      clear dep old ho hsz hph hnot hyes hLi
      go_simp
    | 1, ho =>
      obtain rfl := Option.some.inj ho
      rw [if_pos (wanted_none rfl)]
      have o0 := old 0 (by kernel_rfl)
      refine wp_yields (v := .pointer (some ⟨x, 0, none⟩)) (w' := w2) ?_ (fun u hu => Option.some.inj (Option.some.inj hu)) (phased_quiet hLi (by rfl) hph)
      clear dep old ho hsz hph hnot hyes hLi
      go_simp
    | 2, ho =>
      obtain rfl := Option.some.inj ho
      rw [if_pos (wanted_none rfl)]
      have d1 : a.tmps.getD 7 undef = .pointer (some ⟨x, 0, none⟩) := dep 1 _ _ (by kernel_rfl) rfl rfl _ rfl
      have e1 : a.tmps[7]?.getD undef = .pointer (some ⟨x, 0, none⟩) := (Array.getD_eq_getD_getElem? ..).symm.trans d1
      refine wp_yields (v := .pointer (some ⟨x, 0, none⟩)) (w' := w2) ?_ (fun u hu => Option.some.inj (Option.some.inj hu)) (phased_quiet hLi (by rfl) hph)
      clear dep old ho hsz hph hnot hyes hLi
      go_simp
    | 3, ho =>
      obtain rfl := Option.some.inj ho
      rw [if_pos (wanted_none rfl)]
      have d2 : a.tmps.getD 8 undef = .pointer (some ⟨x, 0, none⟩) := dep 2 _ _ (by kernel_rfl) rfl rfl _ rfl
      have e2 : a.tmps[8]?.getD undef = .pointer (some ⟨x, 0, none⟩) := (Array.getD_eq_getD_getElem? ..).symm.trans d2
      refine wp_yields (v := .pointer (some ⟨x, 0, none⟩)) (w' := w2) ?_ (fun u hu => Option.some.inj (Option.some.inj hu)) (phased_quiet hLi (by rfl) hph)
      clear dep old ho hsz hph hnot hyes hLi
      go_simp
    | 4, ho =>
      obtain rfl := Option.some.inj ho
      rw [if_pos (wanted_none rfl)]
      have d3 : a.tmps.getD 9 undef = .pointer (some ⟨x, 0, none⟩) := dep 3 _ _ (by kernel_rfl) rfl rfl _ rfl
      have e3 : a.tmps[9]?.getD undef = .pointer (some ⟨x, 0, none⟩) := (Array.getD_eq_getD_getElem? ..).symm.trans d3
      have hph2 := hph
      unfold phased at hph2
      rw [if_neg (by rw [hnot 10 (by kernel_rfl)]; decide)] at hph2
      unfold phased at hph2
      rw [if_neg (by rw [hnot 7 (by kernel_rfl)]; decide)] at hph2
      have hB : Below (w.alloc (.cells #[.int .i64 p, .int .i64 s, .string b] 31)).heap.size (w.alloc (.cells #[.int .i64 p, .int .i64 s, .string b] 31)) w2 := phased_all (R := fun w2 => Below (w.alloc (.cells #[.int .i64 p, .int .i64 s, .string b] 31)).heap.size (w.alloc (.cells #[.int .i64 p, .int .i64 s, .string b] 31)) w2) (fun p hp v w2 h => by simp only [List.mem_cons, List.not_mem_nil, or_false] at hp; rcases hp with rfl; rw [show w2 = _ from h]; exact (Below.refl _ _).drew.alloc (by simp) _) (fun w2 h => by rw [h]; exact (Below.refl _ _).drew) hph2
      clear hph2
      have c0 := (HT0.out.below hB).cells.1
      refine wp_yields (v := .slice Aa t.l.length c) (w' := w2) ?_ (fun u hu => Option.some.inj (Option.some.inj hu)) (phased_quiet hLi (by rfl) hph)
      clear dep old ho hsz hph hnot hyes hLi
      clear hB
      go_simp
    | 5, ho =>
      obtain rfl := Option.some.inj ho
      rw [if_pos (wanted_none rfl)]
      have o3 := old 3 (by kernel_rfl)
      have hph2 := hph
      unfold phased at hph2
      rw [if_neg (by rw [hnot 10 (by kernel_rfl)]; decide)] at hph2
      unfold phased at hph2
      rw [if_neg (by rw [hnot 7 (by kernel_rfl)]; decide)] at hph2
      have hB : Below (w.alloc (.cells #[.int .i64 p, .int .i64 s, .string b] 31)).heap.size (w.alloc (.cells #[.int .i64 p, .int .i64 s, .string b] 31)) w2 := phased_all (R := fun w2 => Below (w.alloc (.cells #[.int .i64 p, .int .i64 s, .string b] 31)).heap.size (w.alloc (.cells #[.int .i64 p, .int .i64 s, .string b] 31)) w2) (fun p hp v w2 h => by simp only [List.mem_cons, List.not_mem_nil, or_false] at hp; rcases hp with rfl; rw [show w2 = _ from h]; exact (Below.refl _ _).drew.alloc (by simp) _) (fun w2 h => by rw [h]; exact (Below.refl _ _).drew) hph2
      clear hph2
      have hx := HX.out.below hB
      have c0 := hx.cell 0 _ rfl
      have c1 := hx.cell 1 _ rfl
      have c2 := hx.cell 2 _ rfl
      clear hx
      refine wp_yields (v := .agg #[.int .i64 p, .int .i64 s, .string b]) (w' := w2) ?_ (fun u hu => Option.some.inj (Option.some.inj hu)) (phased_quiet hLi (by rfl) hph)
      clear dep old ho hsz hph hnot hyes hLi
      clear hB
      go_simp
    | 6, ho =>
      obtain rfl := Option.some.inj ho
      rw [if_pos (wanted_none rfl)]
      have d5 : a.tmps.getD 11 undef = .agg #[.int .i64 p, .int .i64 s, .string b] := dep 5 _ _ (by kernel_rfl) rfl rfl _ rfl
      have e5 : a.tmps[11]?.getD undef = .agg #[.int .i64 p, .int .i64 s, .string b] := (Array.getD_eq_getD_getElem? ..).symm.trans d5
      unfold phased at hph
      rw [if_neg (by rw [hnot 10 (by kernel_rfl)]; decide)] at hph
      unfold phased at hph
      rw [if_neg (by rw [hnot 7 (by kernel_rfl)]; decide)] at hph
      unfold phased at hph
      rw [if_neg (by rw [hLi]; decide)] at hph
      unfold phased at hph
      obtain rfl : w2 = (w.alloc (.cells #[.int .i64 p, .int .i64 s, .string b] 31)).drew := hph
      refine wp_yields (v := .slice (some ⟨(w.alloc (.cells #[.int .i64 p, .int .i64 s, .string b] 31)).heap.size, 0, none⟩) 1 1) (w' := ((w.alloc (.cells #[.int .i64 p, .int .i64 s, .string b] 31)).drew.alloc (.cells #[.int .i64 p, .int .i64 s, .string b] 31))) ?_ (fun u hu => Option.some.inj (Option.some.inj hu)) ?_
      · clear dep old ho hsz hnot hyes hLi
        go_simp
      · unfold phased
        rw [if_neg (by simp [also, hnot 10 (by kernel_rfl)])]
        unfold phased
        rw [if_neg (by simp [also, hnot 7 (by kernel_rfl)])]
        unfold phased
        rw [if_pos (by simp [also])]
        exact ⟨by simp [also], rfl⟩
    | 7, ho =>
      obtain rfl := Option.some.inj ho
      rw [if_pos (wanted_none rfl)]
      have d4 : a.tmps.getD 10 undef = .slice Aa t.l.length c := dep 4 _ _ (by kernel_rfl) rfl rfl _ rfl
      have e4 : a.tmps[10]?.getD undef = .slice Aa t.l.length c := (Array.getD_eq_getD_getElem? ..).symm.trans d4
      have d6 : a.tmps.getD 12 undef = .slice (some ⟨(w.alloc (.cells #[.int .i64 p, .int .i64 s, .string b] 31)).heap.size, 0, none⟩) 1 1 := dep 6 _ _ (by kernel_rfl) rfl rfl _ rfl
      have e6 : a.tmps[12]?.getD undef = .slice (some ⟨(w.alloc (.cells #[.int .i64 p, .int .i64 s, .string b] 31)).heap.size, 0, none⟩) 1 1 := (Array.getD_eq_getD_getElem? ..).symm.trans d6
      unfold phased at hph
      rw [if_neg (by rw [hnot 10 (by kernel_rfl)]; decide)] at hph
      unfold phased at hph
      rw [if_neg (by rw [hLi]; decide)] at hph
      unfold phased at hph
      rw [if_pos (hyes 6 (by kernel_rfl))] at hph
      obtain rfl : w2 = ((w.alloc (.cells #[.int .i64 p, .int .i64 s, .string b] 31)).drew.alloc (.cells #[.int .i64 p, .int .i64 s, .string b] 31)) := hph.2
      have hr := HRUN.out
      refine wp_yields (v := .slice An (t.l.length + 1) cn) (w' := w9) (exec_append_run (.tmp 10) (.tmp 12) _ rfl d4 d6 hr) (fun u hu => Option.some.inj (Option.some.inj hu)) ?_
      unfold phased
      rw [if_neg (by simp [also, hnot 10 (by kernel_rfl)])]
      unfold phased
      rw [if_pos (by simp [also])]
      exact ⟨by simp [also], rfl⟩
    | 8, ho =>
      obtain rfl := Option.some.inj ho
      rw [if_pos (wanted_none rfl)]
      have d0 : a.tmps.getD 6 undef = .pointer (some ⟨x, 0, none⟩) := dep 0 _ _ (by kernel_rfl) rfl rfl _ rfl
      have e0 : a.tmps[6]?.getD undef = .pointer (some ⟨x, 0, none⟩) := (Array.getD_eq_getD_getElem? ..).symm.trans d0
      refine wp_yields (v := .pointer (some ⟨x, 0, none⟩)) (w' := w2) ?_ (fun u hu => Option.some.inj (Option.some.inj hu)) (phased_quiet hLi (by rfl) hph)
      clear dep old ho hsz hph hnot hyes hLi
      go_simp
    | 9, ho =>
      obtain rfl := Option.some.inj ho
      rw [if_pos (wanted_none rfl)]
      have d8 : a.tmps.getD 14 undef = .pointer (some ⟨x, 0, none⟩) := dep 8 _ _ (by kernel_rfl) rfl rfl _ rfl
      have e8 : a.tmps[14]?.getD undef = .pointer (some ⟨x, 0, none⟩) := (Array.getD_eq_getD_getElem? ..).symm.trans d8
      refine wp_yields (v := .pointer (some ⟨x, 0, none⟩)) (w' := w2) ?_ (fun u hu => Option.some.inj (Option.some.inj hu)) (phased_quiet hLi (by rfl) hph)
      clear dep old ho hsz hph hnot hyes hLi
      go_simp
    | 10, ho =>
      obtain rfl := Option.some.inj ho
      rw [if_pos (wanted_none rfl)]
      have d7 : a.tmps.getD 13 undef = .slice An (t.l.length + 1) cn := dep 7 _ _ (by kernel_rfl) rfl rfl _ rfl
      have e7 : a.tmps[13]?.getD undef = .slice An (t.l.length + 1) cn := (Array.getD_eq_getD_getElem? ..).symm.trans d7
      have d9 : a.tmps.getD 15 undef = .pointer (some ⟨x, 0, none⟩) := dep 9 _ _ (by kernel_rfl) rfl rfl _ rfl
      have e9 : a.tmps[15]?.getD undef = .pointer (some ⟨x, 0, none⟩) := (Array.getD_eq_getD_getElem? ..).symm.trans d9
      unfold phased at hph
      rw [if_neg (by rw [hLi]; decide)] at hph
      unfold phased at hph
      rw [if_pos (hyes 7 (by kernel_rfl))] at hph
      obtain rfl : w9 = w2 := hph.2.symm
      obtain ⟨⟨u0, hc0⟩, hf0⟩ := HCELL.out
      refine wp_skips (w' := (w9.setCell ⟨x, 0, none⟩ (.slice An (t.l.length + 1) cn))) ?_ (fun u hu => by cases Option.some.inj hu) ?_
      · clear dep old ho hsz hnot hyes hLi hph
        go_simp
      · unfold phased
        rw [if_pos (by simp [also])]
        exact ⟨by simp [also, hyes 9 (by kernel_rfl)], rfl⟩
    | i + 11, ho => exact absurd ho (by simp)
  · intro a w4 hph hsz hdf fin keep
    obtain ⟨tm, df⟩ := a
    have hx := frame_of [6, 7, 8, 9, 10, 11, 12, 13, 14, 15] (by kernel_rfl) hsz keep
    dsimp only at hdf hx
    simp only [List.foldl_cons, List.foldl_nil] at hx
    subst hdf
    clear hsz keep
    have kn : tm.getD 6 undef = .pointer (some ⟨x, 0, none⟩) := fin 0 _ _ rfl rfl _ rfl
    rw [kn] at hx
    clear kn
    have kn : tm.getD 7 undef = .pointer (some ⟨x, 0, none⟩) := fin 1 _ _ rfl rfl _ rfl
    rw [kn] at hx
    clear kn
    have kn : tm.getD 8 undef = .pointer (some ⟨x, 0, none⟩) := fin 2 _ _ rfl rfl _ rfl
    rw [kn] at hx
    clear kn
    have kn : tm.getD 9 undef = .pointer (some ⟨x, 0, none⟩) := fin 3 _ _ rfl rfl _ rfl
    rw [kn] at hx
    clear kn
    have kn : tm.getD 10 undef = .slice Aa t.l.length c := fin 4 _ _ rfl rfl _ rfl
    rw [kn] at hx
    clear kn
    have kn : tm.getD 11 undef = .agg #[.int .i64 p, .int .i64 s, .string b] := fin 5 _ _ rfl rfl _ rfl
    rw [kn] at hx
    clear kn
    have kn : tm.getD 12 undef = .slice (some ⟨(w.alloc (.cells #[.int .i64 p, .int .i64 s, .string b] 31)).heap.size, 0, none⟩) 1 1 := fin 6 _ _ rfl rfl _ rfl
    rw [kn] at hx
    clear kn
    have kn : tm.getD 13 undef = .slice An (t.l.length + 1) cn := fin 7 _ _ rfl rfl _ rfl
    rw [kn] at hx
    clear kn
    have kn : tm.getD 14 undef = .pointer (some ⟨x, 0, none⟩) := fin 8 _ _ rfl rfl _ rfl
    rw [kn] at hx
    clear kn
    have kn : tm.getD 15 undef = .pointer (some ⟨x, 0, none⟩) := fin 9 _ _ rfl rfl _ rfl
    rw [kn] at hx
    clear kn
    clear fin
    simp only [List.setIfInBounds_toArray, List.set_cons_succ, List.set_cons_zero] at hx
    subst hx
    unfold phased at hph
    rw [if_pos rfl] at hph
    obtain ⟨_, hph⟩ := hph
    obtain rfl := hph
    have c1 := HQ1.out
    have cf := HQF.out
    have ee : ((t.ops + 1 : Nat) : Int) = (t.ops : Int) + 1 := by omega
    go_wp2
    go_end0
    exact ⟨rfl, by have := HQ.out; rw [ee] at this; exact this⟩
theorem save_x {w : World} {x : Nat} {A B : Value} {t : Tx} (h : TxP layT w x A B t) :
    Calls Try.prog 15 #[.pointer (some ⟨x, 0, none⟩)] w fun e w' => e = .returned (.int .i64 (t.saveN : Int)) ∧ TxQ layT w w' x A B t.saved := by
  obtain ⟨Aa, c, rfl⟩ := h.l.form
  obtain ⟨Bb, cb, rfl⟩ := h.s.form
  have d2 : w.cell? ⟨x, 2, none⟩ = some (.slice Bb t.sv.length cb) := h.cells.2.2
  by_cases hlt : t.sv.length < 4
  · have h4 : ¬ (4 : Int) ≤ (t.sv.length : Int) := by omega
    have e1 : t.saveN = t.sv.length + 1 := by unfold Tx.saveN; rw [if_pos hlt]
    have e2 : t.saved = ⟨t.l, t.ops, t.sv ++ [t.l.length]⟩ := by unfold Tx.saved; rw [if_pos hlt]
    rw [e1, e2]
    clear e1 e2
    have HT0 := hide h
    have hbel : Below w.heap.size w (w.drew.alloc (.cells #[.int .i64 (t.l.length : Int)] 3)) := (Below.refl _ w).drew.alloc (by simp) _
    have h1 := h.below hbel
    obtain ⟨v', w9, hrun, hr, hg, hv⟩ := run_append_k (K := numK) (w := (w.drew.alloc (.cells #[.int .i64 (t.l.length : Int)] 3))) (b := w.heap.size) (c := 1) (x := t.l.length) h1.s (by omega) (fun i u hu => (Blk.new_ w.drew #[.int .i64 (t.l.length : Int)] 3 rfl : Blk (w.drew.alloc (.cells #[.int .i64 (t.l.length : Int)] 3)) w.heap.size 3 #[.int .i64 (t.l.length : Int)]).cell i u (by rw [← hu, ← Array.getElem?_toList]; rfl)) 36
    have HRUN : Hid ((Builtin.append_ #[36, 36] 36 #[.slice Bb t.sv.length cb, .slice (some ⟨w.heap.size, 0, none⟩) 1 1]).run Try.prog (w.drew.alloc (.cells #[.int .i64 (t.l.length : Int)] 3)) = .ok v' w9) := hide hrun
    have hk9 : Kept (fun k => (Value.slice Bb t.sv.length cb).ownBlock = some k) (w.drew.alloc (.cells #[.int .i64 (t.l.length : Int)] 3)) w9 := (Kept.of_grown hg).mono (fun k e => .inl e)
    have hl9 := hk9.blk h1.blk (fun e => h1.bx x e rfl)
    have HCELL : Hid ((∃ u, w9.cell? ⟨x, 2, none⟩ = some u) ∧ w9.frozen? ⟨x, 2, none⟩ = false) := hide ⟨⟨_, hl9.cell 2 _ rfl⟩, hl9.frozen 2⟩
    obtain ⟨hp3, hk3, hn3⟩ := h1.sSet hk9 hr (fun k e => by
      rcases hv with hv | hv
      · exact .inl (hv ▸ e)
      · rw [hv] at e
        exact .inr (by have := Option.some.inj e; omega))
    have hs1 := hbel.size
    obtain ⟨Bn, cn, en⟩ := hr.form
    rw [List.length_append, List.length_singleton] at en
    subst en
    have HQ1 : Hid ((w9.setCell ⟨x, 2, none⟩ (.slice Bn (t.sv.length + 1) cn)).cell? ⟨x, 2, none⟩ = some (.slice Bn (t.sv.length + 1) cn)) := hide hp3.cells.2.2
    have HQ : Hid (TxQ layT w (w9.setCell ⟨x, 2, none⟩ (.slice Bn (t.sv.length + 1) cn)) x (.slice Aa t.l.length c) (.slice Bb t.sv.length cb) ⟨t.l, t.ops, t.sv ++ [t.l.length]⟩) := hide ⟨(Kept.of_below hbel).trans hk3 (fun k hk => .inl hk), (.slice Aa t.l.length c), .slice Bn (t.sv.length + 1) cn, hp3, fun k hk => (hn3 k hk).imp id (fun h => Nat.le_trans hs1 h)⟩
    clear hrun hr hg hv hk9 hl9 hp3 hk3 hn3 hs1 hbel h1 h hlt
    have ee : ((t.sv.length + 1 : Nat) : Int) = (t.sv.length : Int) + 1 := by omega
    go_enter Try.func15, Try.ntmps15
    go_upto_region 3 with (fail)
    clear d2
    refine region_phases (valV [some (.pointer (some ⟨x, 0, none⟩)), some (.pointer (some ⟨x, 0, none⟩)), some (.pointer (some ⟨x, 0, none⟩)), some (.pointer (some ⟨x, 2, none⟩)), some (.slice Bb t.sv.length cb), some (.pointer (some ⟨x, 0, none⟩)), some (.pointer (some ⟨x, 0, none⟩)), some (.pointer (some ⟨x, 0, none⟩)), some (.slice Aa t.l.length c), some (.int .i64 (t.l.length : Int)), some (.slice (some ⟨w.heap.size, 0, none⟩) 1 1), some (.slice Bn (t.sv.length + 1) cn), some (.pointer (some ⟨x, 0, none⟩)), some (.pointer (some ⟨x, 2, none⟩)), none]) (phased [⟨14, 13, fun _ w2 => w2 = (w9.setCell ⟨x, 2, none⟩ (.slice Bn (t.sv.length + 1) cn))⟩, ⟨11, 11, fun _ w2 => w2 = w9⟩, ⟨10, 10, fun _ w2 => w2 = (w.drew.alloc (.cells #[.int .i64 (t.l.length : Int)] 3))⟩] (fun w2 => w2 = w.drew)) (by kernel_rfl) (by kernel_rfl) (by kernel_rfl) (by kernel_rfl) (phased_ext (by kernel_rfl)) (rfl) ?_ ?_
    · intro i o ho L a w2 hph hsz hLi hnot hyes old dep
      match i, ho with
      | 0, ho =>
        obtain rfl := Option.some.inj ho
        rw [if_pos (wanted_none rfl)]
        have o0 := old 0 (by kernel_rfl)
        refine wp_yields (v := .pointer (some ⟨x, 0, none⟩)) (w' := w2) ?_ (fun u hu => Option.some.inj (Option.some.inj hu)) (phased_quiet hLi (by rfl) hph)
        clear dep old ho hsz hph hnot hyes hLi
        go_simp
      | 1, ho =>
        obtain rfl := Option.some.inj ho
        rw [if_pos (wanted_none rfl)]
        have o0 := old 0 (by kernel_rfl)
        refine wp_yields (v := .pointer (some ⟨x, 0, none⟩)) (w' := w2) ?_ (fun u hu => Option.some.inj (Option.some.inj hu)) (phased_quiet hLi (by rfl) hph)
        clear dep old ho hsz hph hnot hyes hLi
        go_simp
      | 2, ho =>
        obtain rfl := Option.some.inj ho
        rw [if_pos (wanted_none rfl)]
        have d1 : a.tmps.getD 14 undef = .pointer (some ⟨x, 0, none⟩) := dep 1 _ _ (by kernel_rfl) rfl rfl _ rfl
        have e1 : a.tmps[14]?.getD undef = .pointer (some ⟨x, 0, none⟩) := (Array.getD_eq_getD_getElem? ..).symm.trans d1
        refine wp_yields (v := .pointer (some ⟨x, 0, none⟩)) (w' := w2) ?_ (fun u hu => Option.some.inj (Option.some.inj hu)) (phased_quiet hLi (by rfl) hph)
        clear dep old ho hsz hph hnot hyes hLi
        go_simp
      | 3, ho =>
        obtain rfl := Option.some.inj ho
        rw [if_pos (wanted_none rfl)]
        have d2 : a.tmps.getD 15 undef = .pointer (some ⟨x, 0, none⟩) := dep 2 _ _ (by kernel_rfl) rfl rfl _ rfl
        have e2 : a.tmps[15]?.getD undef = .pointer (some ⟨x, 0, none⟩) := (Array.getD_eq_getD_getElem? ..).symm.trans d2
        refine wp_yields (v := .pointer (some ⟨x, 2, none⟩)) (w' := w2) ?_ (fun u hu => Option.some.inj (Option.some.inj hu)) (phased_quiet hLi (by rfl) hph)
        clear dep old ho hsz hph hnot hyes hLi
        go_simp
      | 4, ho =>
        obtain rfl := Option.some.inj ho
        rw [if_pos (wanted_none rfl)]
        have d3 : a.tmps.getD 16 undef = .pointer (some ⟨x, 2, none⟩) := dep 3 _ _ (by kernel_rfl) rfl rfl _ rfl
        have e3 : a.tmps[16]?.getD undef = .pointer (some ⟨x, 2, none⟩) := (Array.getD_eq_getD_getElem? ..).symm.trans d3
        have hph2 := hph
        unfold phased at hph2
        rw [if_neg (by rw [hnot 14 (by kernel_rfl)]; decide)] at hph2
        unfold phased at hph2
        rw [if_neg (by rw [hnot 11 (by kernel_rfl)]; decide)] at hph2
        have hB : Below w.heap.size w w2 := phased_all (R := fun w2 => Below w.heap.size w w2) (fun p hp v w2 h => by simp only [List.mem_cons, List.not_mem_nil, or_false] at hp; rcases hp with rfl; rw [show w2 = _ from h]; exact (Below.refl _ _).drew.alloc (by simp) _) (fun w2 h => by rw [h]; exact (Below.refl _ _).drew) hph2
        clear hph2
        have c0 : w2.cell? ⟨x, 2, none⟩ = _ := (HT0.out.below hB).cells.2.2
        refine wp_yields (v := .slice Bb t.sv.length cb) (w' := w2) ?_ (fun u hu => Option.some.inj (Option.some.inj hu)) (phased_quiet hLi (by rfl) hph)
        clear dep old ho hsz hph hnot hyes hLi
        clear hB
        go_simp
      | 5, ho =>
        obtain rfl := Option.some.inj ho
        rw [if_pos (wanted_none rfl)]
        have o0 := old 0 (by kernel_rfl)
        refine wp_yields (v := .pointer (some ⟨x, 0, none⟩)) (w' := w2) ?_ (fun u hu => Option.some.inj (Option.some.inj hu)) (phased_quiet hLi (by rfl) hph)
        clear dep old ho hsz hph hnot hyes hLi
        go_simp
      | 6, ho =>
        obtain rfl := Option.some.inj ho
        rw [if_pos (wanted_none rfl)]
        have d5 : a.tmps.getD 18 undef = .pointer (some ⟨x, 0, none⟩) := dep 5 _ _ (by kernel_rfl) rfl rfl _ rfl
        have e5 : a.tmps[18]?.getD undef = .pointer (some ⟨x, 0, none⟩) := (Array.getD_eq_getD_getElem? ..).symm.trans d5
        refine wp_yields (v := .pointer (some ⟨x, 0, none⟩)) (w' := w2) ?_ (fun u hu => Option.some.inj (Option.some.inj hu)) (phased_quiet hLi (by rfl) hph)
        clear dep old ho hsz hph hnot hyes hLi
        go_simp
      | 7, ho =>
        obtain rfl := Option.some.inj ho
        rw [if_pos (wanted_none rfl)]
        have d6 : a.tmps.getD 19 undef = .pointer (some ⟨x, 0, none⟩) := dep 6 _ _ (by kernel_rfl) rfl rfl _ rfl
        have e6 : a.tmps[19]?.getD undef = .pointer (some ⟨x, 0, none⟩) := (Array.getD_eq_getD_getElem? ..).symm.trans d6
        refine wp_yields (v := .pointer (some ⟨x, 0, none⟩)) (w' := w2) ?_ (fun u hu => Option.some.inj (Option.some.inj hu)) (phased_quiet hLi (by rfl) hph)
        clear dep old ho hsz hph hnot hyes hLi
        go_simp
      | 8, ho =>
        obtain rfl := Option.some.inj ho
        rw [if_pos (wanted_none rfl)]
        have d7 : a.tmps.getD 20 undef = .pointer (some ⟨x, 0, none⟩) := dep 7 _ _ (by kernel_rfl) rfl rfl _ rfl
        have e7 : a.tmps[20]?.getD undef = .pointer (some ⟨x, 0, none⟩) := (Array.getD_eq_getD_getElem? ..).symm.trans d7
        have hph2 := hph
        unfold phased at hph2
        rw [if_neg (by rw [hnot 14 (by kernel_rfl)]; decide)] at hph2
        unfold phased at hph2
        rw [if_neg (by rw [hnot 11 (by kernel_rfl)]; decide)] at hph2
        have hB : Below w.heap.size w w2 := phased_all (R := fun w2 => Below w.heap.size w w2) (fun p hp v w2 h => by simp only [List.mem_cons, List.not_mem_nil, or_false] at hp; rcases hp with rfl; rw [show w2 = _ from h]; exact (Below.refl _ _).drew.alloc (by simp) _) (fun w2 h => by rw [h]; exact (Below.refl _ _).drew) hph2
        clear hph2
        have c0 := (HT0.out.below hB).cells.1
        refine wp_yields (v := .slice Aa t.l.length c) (w' := w2) ?_ (fun u hu => Option.some.inj (Option.some.inj hu)) (phased_quiet hLi (by rfl) hph)
        clear dep old ho hsz hph hnot hyes hLi
        clear hB
        go_simp
      | 9, ho =>
        obtain rfl := Option.some.inj ho
        rw [if_pos (wanted_none rfl)]
        have d8 : a.tmps.getD 21 undef = .slice Aa t.l.length c := dep 8 _ _ (by kernel_rfl) rfl rfl _ rfl
        have e8 : a.tmps[21]?.getD undef = .slice Aa t.l.length c := (Array.getD_eq_getD_getElem? ..).symm.trans d8
        refine wp_yields (v := .int .i64 (t.l.length : Int)) (w' := w2) ?_ (fun u hu => Option.some.inj (Option.some.inj hu)) (phased_quiet hLi (by rfl) hph)
        clear dep old ho hsz hph hnot hyes hLi
        go_simp
      | 10, ho =>
        obtain rfl := Option.some.inj ho
        rw [if_pos (wanted_none rfl)]
        have d9 : a.tmps.getD 22 undef = .int .i64 (t.l.length : Int) := dep 9 _ _ (by kernel_rfl) rfl rfl _ rfl
        have e9 : a.tmps[22]?.getD undef = .int .i64 (t.l.length : Int) := (Array.getD_eq_getD_getElem? ..).symm.trans d9
        unfold phased at hph
        rw [if_neg (by rw [hnot 14 (by kernel_rfl)]; decide)] at hph
        unfold phased at hph
        rw [if_neg (by rw [hnot 11 (by kernel_rfl)]; decide)] at hph
        unfold phased at hph
        rw [if_neg (by rw [hLi]; decide)] at hph
        unfold phased at hph
        obtain rfl : w2 = w.drew := hph
        refine wp_yields (v := .slice (some ⟨w.heap.size, 0, none⟩) 1 1) (w' := (w.drew.alloc (.cells #[.int .i64 (t.l.length : Int)] 3))) ?_ (fun u hu => Option.some.inj (Option.some.inj hu)) ?_
        · clear dep old ho hsz hnot hyes hLi
          go_simp
        · unfold phased
          rw [if_neg (by simp [also, hnot 14 (by kernel_rfl)])]
          unfold phased
          rw [if_neg (by simp [also, hnot 11 (by kernel_rfl)])]
          unfold phased
          rw [if_pos (by simp [also])]
          exact ⟨by simp [also], rfl⟩
      | 11, ho =>
        obtain rfl := Option.some.inj ho
        rw [if_pos (wanted_none rfl)]
        have d4 : a.tmps.getD 17 undef = .slice Bb t.sv.length cb := dep 4 _ _ (by kernel_rfl) rfl rfl _ rfl
        have e4 : a.tmps[17]?.getD undef = .slice Bb t.sv.length cb := (Array.getD_eq_getD_getElem? ..).symm.trans d4
        have d10 : a.tmps.getD 23 undef = .slice (some ⟨w.heap.size, 0, none⟩) 1 1 := dep 10 _ _ (by kernel_rfl) rfl rfl _ rfl
        have e10 : a.tmps[23]?.getD undef = .slice (some ⟨w.heap.size, 0, none⟩) 1 1 := (Array.getD_eq_getD_getElem? ..).symm.trans d10
        unfold phased at hph
        rw [if_neg (by rw [hnot 14 (by kernel_rfl)]; decide)] at hph
        unfold phased at hph
        rw [if_neg (by rw [hLi]; decide)] at hph
        unfold phased at hph
        rw [if_pos (hyes 10 (by kernel_rfl))] at hph
        obtain rfl : w2 = (w.drew.alloc (.cells #[.int .i64 (t.l.length : Int)] 3)) := hph.2
        have hr := HRUN.out
        refine wp_yields (v := .slice Bn (t.sv.length + 1) cn) (w' := w9) (exec_append_run (.tmp 17) (.tmp 23) _ rfl d4 d10 hr) (fun u hu => Option.some.inj (Option.some.inj hu)) ?_
        unfold phased
        rw [if_neg (by simp [also, hnot 14 (by kernel_rfl)])]
        unfold phased
        rw [if_pos (by simp [also])]
        exact ⟨by simp [also], rfl⟩
      | 12, ho =>
        obtain rfl := Option.some.inj ho
        rw [if_pos (wanted_none rfl)]
        have d0 : a.tmps.getD 13 undef = .pointer (some ⟨x, 0, none⟩) := dep 0 _ _ (by kernel_rfl) rfl rfl _ rfl
        have e0 : a.tmps[13]?.getD undef = .pointer (some ⟨x, 0, none⟩) := (Array.getD_eq_getD_getElem? ..).symm.trans d0
        refine wp_yields (v := .pointer (some ⟨x, 0, none⟩)) (w' := w2) ?_ (fun u hu => Option.some.inj (Option.some.inj hu)) (phased_quiet hLi (by rfl) hph)
        clear dep old ho hsz hph hnot hyes hLi
        go_simp
      | 13, ho =>
        obtain rfl := Option.some.inj ho
        rw [if_pos (wanted_none rfl)]
        have d12 : a.tmps.getD 25 undef = .pointer (some ⟨x, 0, none⟩) := dep 12 _ _ (by kernel_rfl) rfl rfl _ rfl
        have e12 : a.tmps[25]?.getD undef = .pointer (some ⟨x, 0, none⟩) := (Array.getD_eq_getD_getElem? ..).symm.trans d12
        refine wp_yields (v := .pointer (some ⟨x, 2, none⟩)) (w' := w2) ?_ (fun u hu => Option.some.inj (Option.some.inj hu)) (phased_quiet hLi (by rfl) hph)
        clear dep old ho hsz hph hnot hyes hLi
        go_simp
      | 14, ho =>
        obtain rfl := Option.some.inj ho
        rw [if_pos (wanted_none rfl)]
        have d11 : a.tmps.getD 24 undef = .slice Bn (t.sv.length + 1) cn := dep 11 _ _ (by kernel_rfl) rfl rfl _ rfl
        have e11 : a.tmps[24]?.getD undef = .slice Bn (t.sv.length + 1) cn := (Array.getD_eq_getD_getElem? ..).symm.trans d11
        have d13 : a.tmps.getD 26 undef = .pointer (some ⟨x, 2, none⟩) := dep 13 _ _ (by kernel_rfl) rfl rfl _ rfl
        have e13 : a.tmps[26]?.getD undef = .pointer (some ⟨x, 2, none⟩) := (Array.getD_eq_getD_getElem? ..).symm.trans d13
        unfold phased at hph
        rw [if_neg (by rw [hLi]; decide)] at hph
        unfold phased at hph
        rw [if_pos (hyes 11 (by kernel_rfl))] at hph
        obtain rfl : w9 = w2 := hph.2.symm
        obtain ⟨⟨u0, hc0⟩, hf0⟩ := HCELL.out
        refine wp_skips (w' := (w9.setCell ⟨x, 2, none⟩ (.slice Bn (t.sv.length + 1) cn))) ?_ (fun u hu => by cases Option.some.inj hu) ?_
        · clear dep old ho hsz hnot hyes hLi hph
          go_simp
        · unfold phased
          rw [if_pos (by simp [also])]
          exact ⟨by simp [also, hyes 13 (by kernel_rfl)], rfl⟩
      | i + 15, ho => exact absurd ho (by simp)
    · intro a w4 hph hsz hdf fin keep
      obtain ⟨tm, df⟩ := a
      have hx := frame_of [13, 14, 15, 16, 17, 18, 19, 20, 21, 22, 23, 24, 25, 26] (by kernel_rfl) hsz keep
      dsimp only at hdf hx
      simp only [List.foldl_cons, List.foldl_nil] at hx
      subst hdf
      clear hsz keep
      have kn : tm.getD 13 undef = .pointer (some ⟨x, 0, none⟩) := fin 0 _ _ rfl rfl _ rfl
      rw [kn] at hx
      clear kn
      have kn : tm.getD 14 undef = .pointer (some ⟨x, 0, none⟩) := fin 1 _ _ rfl rfl _ rfl
      rw [kn] at hx
      clear kn
      have kn : tm.getD 15 undef = .pointer (some ⟨x, 0, none⟩) := fin 2 _ _ rfl rfl _ rfl
      rw [kn] at hx
      clear kn
      have kn : tm.getD 16 undef = .pointer (some ⟨x, 2, none⟩) := fin 3 _ _ rfl rfl _ rfl
      rw [kn] at hx
      clear kn
      have kn : tm.getD 17 undef = .slice Bb t.sv.length cb := fin 4 _ _ rfl rfl _ rfl
      rw [kn] at hx
      clear kn
      have kn : tm.getD 18 undef = .pointer (some ⟨x, 0, none⟩) := fin 5 _ _ rfl rfl _ rfl
      rw [kn] at hx
      clear kn
      have kn : tm.getD 19 undef = .pointer (some ⟨x, 0, none⟩) := fin 6 _ _ rfl rfl _ rfl
      rw [kn] at hx
      clear kn
      have kn : tm.getD 20 undef = .pointer (some ⟨x, 0, none⟩) := fin 7 _ _ rfl rfl _ rfl
      rw [kn] at hx
      clear kn
      have kn : tm.getD 21 undef = .slice Aa t.l.length c := fin 8 _ _ rfl rfl _ rfl
      rw [kn] at hx
      clear kn
      have kn : tm.getD 22 undef = .int .i64 (t.l.length : Int) := fin 9 _ _ rfl rfl _ rfl
      rw [kn] at hx
      clear kn
      have kn : tm.getD 23 undef = .slice (some ⟨w.heap.size, 0, none⟩) 1 1 := fin 10 _ _ rfl rfl _ rfl
      rw [kn] at hx
      clear kn
      have kn : tm.getD 24 undef = .slice Bn (t.sv.length + 1) cn := fin 11 _ _ rfl rfl _ rfl
      rw [kn] at hx
      clear kn
      have kn : tm.getD 25 undef = .pointer (some ⟨x, 0, none⟩) := fin 12 _ _ rfl rfl _ rfl
      rw [kn] at hx
      clear kn
      have kn : tm.getD 26 undef = .pointer (some ⟨x, 2, none⟩) := fin 13 _ _ rfl rfl _ rfl
      rw [kn] at hx
      clear kn
      clear fin
      simp only [List.setIfInBounds_toArray, List.set_cons_succ, List.set_cons_zero] at hx
      subst hx
      unfold phased at hph
      rw [if_pos rfl] at hph
      obtain ⟨_, hph⟩ := hph
      obtain rfl := hph
      have c1 := HQ1.out
      go_wp2
      go_ret
      exact ⟨rfl, HQ.out⟩
  · have h4 : (4 : Int) ≤ (t.sv.length : Int) := by omega
    have e1 : t.saveN = 0 := by unfold Tx.saveN; rw [if_neg hlt]
    have e2 : t.saved = t := by unfold Tx.saved; rw [if_neg hlt]
    rw [e1, e2]
    go_enter Try.func15, Try.ntmps15
    go_wp2
    go_ret
    exact ⟨rfl, Kept.refl _ _, _, _, h, fun k hk => .inl hk⟩
end Go.Proofs.Ytkegfedbffhnfaa
