/-
  Contracts of Load and End.
-/
import Derived.Test.YtkegfedbffhnfaaPop
import Derived.Test.YtkegfedbffhnfaaLastB
namespace Go.Proofs.Ytkegfedbffhnfaa
open Go.RowKit Go.Lib
set_option maxRecDepth 20000
set_option linter.unusedSimpArgs false
set_option linter.unusedVariables false

/-- A row of changes in new blocks. -/
def sayRow (B : Nat) (es : List Ch) : Say := ⟨fun w v => chK.Row w v es ∧ ∀ k, v.ownBlock = some k → B ≤ k, fun _ _ _ h hb => ⟨h.1.below hb, h.2⟩⟩
/-- A transaction as a value. -/
def sayVal (B : Nat) (es : List Ch) : Say := ⟨fun w v => ∃ A c, v = .agg #[.slice A es.length c, .int .i64 (es.length : Int), .slice none 0 0] ∧ (sayRow B es).p w (.slice A es.length c), fun w w' v h hb => let ⟨A, c, e, h1⟩ := h; ⟨A, c, e, (sayRow B es).st w w' _ h1 hb⟩⟩
/-- A new one. -/
def sayTxn (B : Nat) (es : List Ch) : Say := ⟨fun w v => ∃ x, v = .pointer (some ⟨x, 0, none⟩) ∧ TxIn layT w x ⟨es, es.length, []⟩ (fun k => B ≤ k), fun w w' v h hb => let ⟨x, e, h1⟩ := h; ⟨x, e, h1.keep (Kept.of_below (S := fun _ => False) hb) (fun _ _ h => h)⟩⟩
theorem load_no {w : World} {v u : Value} {n : Int} (hn : numB n = false) : Calls Try.prog 18 #[v, .int .i64 n, u] w fun e w' => e = .returned (.tuple #[]) ∧ w = w' := by
  go_enter Try.func18, Try.ntmps18
  go_wp2_with (go_at_call 25; (with_reducible refine (isNumber_any n _).mono ?_); rw [hn]; rintro e w1 ⟨rfl, rfl⟩)
  go_end0
  exact ⟨rfl, rfl⟩
theorem load_yes {w : World} {g m : Nat} {T : Tb} {O : Nat → Prop} {A : Option Addr} {c : Nat} {es : List Ch} (h : Tab layT 27 w g T O) (hm : 0 < m) (hm4 : m < 4) (hs : ∀ a, A = some a → ∀ j u, (chK.flat es)[j]? = some u → w.cell? (a.add j) = some u) (h0 : A = none → es = []) (hl : es.length ≤ 100000) :
    Calls Try.prog 18 #[.pointer (some ⟨g, 0, none⟩), .int .i64 (m : Int), .slice A es.length c] w fun e w' => e = .returned (.tuple #[]) ∧ ∃ x, Tab layT 27 w' g (updT T m (some (x, ⟨es, es.length, []⟩))) (fun k => O k ∨ w.heap.size ≤ k) ∧ Kept O w w' := by
  have HSRC : Hid (∀ W, Below w.heap.size w W → Calls Try.prog 28 #[.slice A es.length c] W fun e w' => ∃ v, e = .returned v ∧ (sayRow w.heap.size es).p w' v ∧ Below W.heap.size W w') := hide (fun W hb => (clone_src (fun a ea j u hu => by
    have h1 := hs a ea j u hu
    exact (hb.cell (block_lt_of_cell h1)).trans h1) h0 hl).mono (fun e w' ⟨v, h1, h2, h3, h4⟩ => ⟨v, h1, ⟨h2, fun k e => Nat.le_trans hb.size (h4 k e)⟩, h3⟩))
  have hn : numB (m : Int) = true := numB_iff.2 (by omega)
  have HBLK := hide h.blk
  have HM4 := hide hm4
  have HH := hide h
  have hm4i : (m : Int) < 4 := by omega
  have hm0i : (0 : Int) ≤ (m : Int) := by omega
  have HM := hide hm
  clear hs h0 hl h hm hm4
  go_enter Try.func18, Try.ntmps18
  go_upto_region 1 with (go_at_call 25; (with_reducible refine (isNumber_any (m : Int) _).mono ?_); rw [hn]; rintro e w1 ⟨rfl, rfl⟩)
  refine region_store 11 [Say.is (.pointer (some ⟨g, 0, none⟩)), Say.is (.int .i64 (m : Int)), Say.is (.slice A es.length c), sayRow w.heap.size es, Say.is (.slice A es.length c), Say.is (.int .i64 (es.length : Int)), sayVal w.heap.size es, sayTxn w.heap.size es, Say.is (.pointer (some ⟨g, 0, none⟩)), Say.is (.pointer (some ⟨g, 0, none⟩)), Say.is (.pointer (some ⟨g, m, none⟩))] (fun w9 => ∃ x u, Below w.heap.size w u ∧ TxIn layT u x ⟨es, es.length, []⟩ (fun k => w.heap.size ≤ k) ∧ w9 = u.setCell ⟨g, m, none⟩ (.pointer (some ⟨x, 0, none⟩))) rfl rfl rfl rfl (by kernel_rfl) (by kernel_rfl) (by kernel_rfl) (by kernel_rfl) (by kernel_rfl) ?_ ?_ ?_
  · intro i o hik ho a w2 hb hsz old dep
    match i, ho with
    | 0, ho =>
      obtain rfl := Option.some.inj ho
      have o0 : a.tmps.getD 0 undef = _ := old 0 (by kernel_rfl)
      rw [if_pos (wanted_none rfl)]
      refine grow_same (v := .pointer (some ⟨g, 0, none⟩)) ?_ rfl
      clear old dep ho hsz hb
      go_simp
    | 1, ho =>
      obtain rfl := Option.some.inj ho
      have o1 : a.tmps.getD 1 undef = _ := old 1 (by kernel_rfl)
      rw [if_pos (wanted_none rfl)]
      refine grow_same (v := .int .i64 (m : Int)) ?_ rfl
      clear old dep ho hsz hb
      go_simp
    | 2, ho =>
      obtain rfl := Option.some.inj ho
      have o2 : a.tmps.getD 2 undef = _ := old 2 (by kernel_rfl)
      rw [if_pos (wanted_none rfl)]
      refine grow_same (v := .slice A es.length c) ?_ rfl
      clear old dep ho hsz hb
      go_simp
    | 3, ho =>
      obtain rfl := Option.some.inj ho
      have d2 : a.tmps.getD 10 undef = .slice A es.length c := dep 2 _ _ (by kernel_rfl) rfl rfl
      have e2 : a.tmps[10]?.getD undef = _ := (Array.getD_eq_getD_getElem? ..).symm.trans d2
      rw [if_pos (wanted_none rfl)]
      refine grow_enters (f := 28) (args := #[.slice A es.length c]) ?_ (HSRC.out _ hb)
      clear old dep ho hsz hb
      go_simp
    | 4, ho =>
      obtain rfl := Option.some.inj ho
      have o2 : a.tmps.getD 2 undef = _ := old 2 (by kernel_rfl)
      rw [if_pos (wanted_none rfl)]
      refine grow_same (v := .slice A es.length c) ?_ rfl
      clear old dep ho hsz hb
      go_simp
    | 5, ho =>
      obtain rfl := Option.some.inj ho
      have d4 : a.tmps.getD 12 undef = .slice A es.length c := dep 4 _ _ (by kernel_rfl) rfl rfl
      have e4 : a.tmps[12]?.getD undef = _ := (Array.getD_eq_getD_getElem? ..).symm.trans d4
      rw [if_pos (wanted_none rfl)]
      refine grow_same (v := .int .i64 (es.length : Int)) ?_ rfl
      clear old dep ho hsz hb
      go_simp
    | 6, ho =>
      obtain rfl := Option.some.inj ho
      have s3 : (sayRow w.heap.size es).p w2 (a.tmps.getD 11 undef) := dep 3 _ _ (by kernel_rfl) rfl rfl
      have d5 : a.tmps.getD 13 undef = .int .i64 (es.length : Int) := dep 5 _ _ (by kernel_rfl) rfl rfl
      have e5 : a.tmps[13]?.getD undef = _ := (Array.getD_eq_getD_getElem? ..).symm.trans d5
      rw [if_pos (wanted_none rfl)]
      obtain ⟨An, cn, en⟩ := s3.1.form
      have e3 : a.tmps[11]?.getD undef = .slice An es.length cn := (Array.getD_eq_getD_getElem? ..).symm.trans en
      rw [en] at s3
      refine grow_same (v := .agg #[.slice An es.length cn, .int .i64 (es.length : Int), .slice none 0 0]) ?_ ⟨An, cn, rfl, s3⟩
      clear old dep ho hsz hb s3 en
      go_simp
    | 7, ho =>
      obtain rfl := Option.some.inj ho
      have s6 : (sayVal w.heap.size es).p w2 (a.tmps.getD 14 undef) := dep 6 _ _ (by kernel_rfl) rfl rfl
      rw [if_pos (wanted_none rfl)]
      obtain ⟨An, cn, en, hr, hn⟩ := s6
      have e6 : a.tmps[14]?.getD undef = _ := (Array.getD_eq_getD_getElem? ..).symm.trans en
      have hz := hb.size
      refine grow_yields (v := .pointer (some ⟨w2.heap.size, 0, none⟩)) (w' := w2.alloc (.cells #[.slice An es.length cn, .int .i64 (es.length : Int), .slice none 0 0] 62)) ?_ ⟨w2.heap.size, rfl, .slice An es.length cn, .slice none 0 0, TxP.new_ (y := layT) (t := ⟨es, es.length, []⟩) hr (Kd.Row.nil _ _) (fun k _ e => by cases e), fun k hk => ?_⟩ ((Below.refl _ _).alloc (Nat.le_refl _) _)
      · clear old dep ho hsz hb hr hn hz en
        go_simp
      · rcases hk with rfl | hk | hk
        · exact hz
        · exact hn k hk
        · cases hk
    | 8, ho =>
      obtain rfl := Option.some.inj ho
      have d0 : a.tmps.getD 8 undef = .pointer (some ⟨g, 0, none⟩) := dep 0 _ _ (by kernel_rfl) rfl rfl
      have e0 : a.tmps[8]?.getD undef = _ := (Array.getD_eq_getD_getElem? ..).symm.trans d0
      rw [if_pos (wanted_none rfl)]
      refine grow_same (v := .pointer (some ⟨g, 0, none⟩)) ?_ rfl
      clear old dep ho hsz hb
      go_simp
    | 9, ho =>
      obtain rfl := Option.some.inj ho
      have d8 : a.tmps.getD 16 undef = .pointer (some ⟨g, 0, none⟩) := dep 8 _ _ (by kernel_rfl) rfl rfl
      have e8 : a.tmps[16]?.getD undef = _ := (Array.getD_eq_getD_getElem? ..).symm.trans d8
      rw [if_pos (wanted_none rfl)]
      refine grow_same (v := .pointer (some ⟨g, 0, none⟩)) ?_ rfl
      clear old dep ho hsz hb
      go_simp
    | 10, ho =>
      obtain rfl := Option.some.inj ho
      have d1 : a.tmps.getD 9 undef = .int .i64 (m : Int) := dep 1 _ _ (by kernel_rfl) rfl rfl
      have e1 : a.tmps[9]?.getD undef = _ := (Array.getD_eq_getD_getElem? ..).symm.trans d1
      have d9 : a.tmps.getD 17 undef = .pointer (some ⟨g, 0, none⟩) := dep 9 _ _ (by kernel_rfl) rfl rfl
      have e9 : a.tmps[17]?.getD undef = _ := (Array.getD_eq_getD_getElem? ..).symm.trans d9
      rw [if_pos (wanted_none rfl)]
      refine grow_same (v := .pointer (some ⟨g, m, none⟩)) ?_ rfl
      clear old dep ho hsz hb
      go_simp
    | i + 11, ho => exact absurd hik (by omega)
  · intro a w2 hb hsz old dep
    have s7 : (sayTxn w.heap.size es).p w2 (a.tmps.getD 15 undef) := dep 7 _ _ (by kernel_rfl) rfl rfl
    have d10 : a.tmps.getD 18 undef = .pointer (some ⟨g, m, none⟩) := dep 10 _ _ (by kernel_rfl) rfl rfl
    have e10 : a.tmps[18]?.getD undef = _ := (Array.getD_eq_getD_getElem? ..).symm.trans d10
    obtain ⟨x, ex, hx⟩ := s7
    have ex2 : a.tmps[15]?.getD undef = .pointer (some ⟨x, 0, none⟩) := (Array.getD_eq_getD_getElem? ..).symm.trans ex
    have hbk := HBLK.out.below hb
    have c0 := hbk.cell m _ (cellsT_at T HM4.out)
    have cf := hbk.frozen m
    refine ⟨w2.setCell ⟨g, m, none⟩ (.pointer (some ⟨x, 0, none⟩)), ?_, x, w2, hb, hx, rfl⟩
    clear old dep hsz hb hx hbk ex
    go_simp
  · intro a w4 hR hsz hdf keep
    obtain ⟨tm, df⟩ := a
    have hx := frame_of [8, 9, 10, 11, 12, 13, 14, 15, 16, 17, 18] (by kernel_rfl) hsz keep
    dsimp only at hdf hx
    simp only [List.foldl_cons, List.foldl_nil] at hx
    subst hdf
    clear hsz keep
    generalize tm.getD 8 undef = y8 at hx
    generalize tm.getD 9 undef = y9 at hx
    generalize tm.getD 10 undef = y10 at hx
    generalize tm.getD 11 undef = y11 at hx
    generalize tm.getD 12 undef = y12 at hx
    generalize tm.getD 13 undef = y13 at hx
    generalize tm.getD 14 undef = y14 at hx
    generalize tm.getD 15 undef = y15 at hx
    generalize tm.getD 16 undef = y16 at hx
    generalize tm.getD 17 undef = y17 at hx
    generalize tm.getD 18 undef = y18 at hx
    simp only [List.setIfInBounds_toArray, List.set_cons_succ, List.set_cons_zero] at hx
    subst hx
    obtain ⟨x, u, hb, hx, rfl⟩ := hR
    have HB := hide hb
    have HX := hide hx
    clear hb hx
    go_wp2
    go_end0
    obtain ⟨h1, h2⟩ := HH.out.stored (o := some (x, ⟨es, es.length, []⟩)) HM.out HM4.out HB.out (fun x2 t2 e => by
      injection e with e
      injection e with e1 e2
      subst e1 e2
      exact HX.out)
    exact ⟨rfl, x, h1, h2⟩
theorem end_no {w : World} {v : Value} {n : Int} (hn : numB n = false) : Calls Try.prog 11 #[v, .int .i64 n] w fun e w' => e = .returned (.tuple #[]) ∧ w = w' := by
  go_enter Try.func11, Try.ntmps11
  go_wp2_with (go_at_call 25; (with_reducible refine (isNumber_any n _).mono ?_); rw [hn]; rintro e w1 ⟨rfl, rfl⟩)
  go_end0
  exact ⟨rfl, rfl⟩
theorem end_yes {w : World} {g m : Nat} {T : Tb} {O : Nat → Prop} (h : Tab layT 27 w g T O) (hm : 0 < m) (hm4 : m < 4) :
    Calls Try.prog 11 #[.pointer (some ⟨g, 0, none⟩), .int .i64 (m : Int)] w fun e w' => e = .returned (.tuple #[]) ∧ Tab layT 27 w' g (updT T m none) (fun k => O k ∨ w.heap.size ≤ k) ∧ Kept O w w' := by
  have hn : numB (m : Int) = true := numB_iff.2 (by omega)
  have hst := h.stored (o := none) hm hm4 (Below.refl _ w) (fun x t e => by cases e)
  have HST := hide hst
  have c0 := h.blk.cell m _ (cellsT_at T hm4)
  have cf := h.blk.frozen m
  have hm4i : (m : Int) < 4 := by omega
  have hm0i : (0 : Int) ≤ (m : Int) := by omega
  clear hst h hm hm4
  go_enter Try.func11, Try.ntmps11
  go_wp2_with (go_at_call 25; (with_reducible refine (isNumber_any (m : Int) _).mono ?_); rw [hn]; rintro e w1 ⟨rfl, rfl⟩)
  go_end0
  exact ⟨rfl, HST.out⟩
end Go.Proofs.Ytkegfedbffhnfaa
