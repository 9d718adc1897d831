/-
  A pool on its disk, all of it up: Touch, Flush, a page's Set, the lane's Append, Dirty.
-/
import Derived.Test.YtkdcnddagebjpaaPl3
namespace Go.Proofs.Ytkdcnddagebjpaa
open Go.RowKit
set_option maxRecDepth 20000
set_option linter.unusedSimpArgs false
set_option linter.unusedVariables false

section
variable {w w' : World} {X Y : Nat → Prop} {dg : Nat} {d : Ds} {g q r k gen s : Nat} {all : List Rc} {P : Po} {D : Nat → Pg} {x : Option Nat} {q' : Nat} {y : Fm}
/-- The lane's Append, where there is room. -/
theorem po_append {c : Rc} {A2 : Option Addr} {c2 : Nat} (h : PoolT w X dg d g q r k gen all s P D x) (hq : c.Ok) (hr : Rd w (.slice A2 c.ds.length c2) (u64s c.ds)) (hl : (frsR all).length + c.frame.length ≤ 14336) :
    Calls Try.prog 13 #[.pointer (some ⟨g, 0, none⟩), .agg #[.int .i64 (c.k : Int), .int .i64 (c.t : Int), .int .i64 (c.p : Int), .int .i64 (c.s : Int), .string c.b, .string c.a, .string c.i, .slice A2 c.ds.length c2]] w fun e w' => e = .returned (.tuple #[.int .u64 (lim gen all : Int), .int .i64 0]) ∧ PoolT w' X dg d g q r k gen (all ++ [c]) s P D x ∧ Out (PX X q P) w w' := by
  obtain ⟨l, kv, gr, h1, h2, h3, h4, h5, h6, h7, h8, h9⟩ := h
  have hc : frCode [c] (14336 - l.len) = 0 := fr_code (fun x hx => by rw [List.mem_singleton] at hx; subst hx; exact hq) (by rw [frsR_one, h3.len]; omega)
  refine (append_ln h1.ln h3.lf hr hq.u hc).mono ?_
  rintro e w' ⟨_, hy⟩
  obtain ⟨rfl, kv', hln, ho⟩ := hy rfl
  rw [h3.len, h7]
  refine ⟨rfl, ⟨_, kv', gr, h1.laned hln ho, h2, h3.append hq hl, h4, h5, h6, h7, h8, ?_⟩, ho⟩
  rw [List.take_append_of_le_length h3.sle]
  exact h9.more (Nat.le_refl _) (Nat.le_of_lt (lim_app _ _ _))
/-- Where there isn't. -/
theorem po_quota {c : Rc} {A2 : Option Addr} {c2 : Nat} (h : PoolT w X dg d g q r k gen all s P D x) (hq : c.Ok) (hr : Rd w (.slice A2 c.ds.length c2) (u64s c.ds)) (hl : 14336 < (frsR all).length + c.frame.length) :
    Calls Try.prog 13 #[.pointer (some ⟨g, 0, none⟩), .agg #[.int .i64 (c.k : Int), .int .i64 (c.t : Int), .int .i64 (c.p : Int), .int .i64 (c.s : Int), .string c.b, .string c.a, .string c.i, .slice A2 c.ds.length c2]] w fun e w' => e = .returned (.tuple #[.int .u64 0, .int .i64 7]) ∧ Below w.heap.size w w' := by
  obtain ⟨l, kv, gr, h1, h2, h3, h4, h5, h6, h7, h8, h9⟩ := h
  have hfp := c.frame_pos
  have hc : frCode [c] (14336 - l.len) = 7 := fr_quota (fun x hx => by rw [List.mem_singleton] at hx; subst hx; exact hq) (by rw [frsR_one, h3.len]; omega)
  refine (append_ln h1.ln h3.lf hr hq.u hc).mono ?_
  rintro e w' ⟨hn, _⟩
  exact hn (by decide)
theorem PoolT.at_ (h : PoolT w X dg d g q r k gen all s P D x) {z b : Nat} (hz : z < 3) (hb : (P.f z).pb = some b) : PgB w b (P.f z).pg ∧ ¬ X b ∧ (P.f z).pg.good ∧ P.find (P.f z).num = some z := by
  obtain ⟨l, kv, gr, h1, h2, h3, h4, h5, h6, h7, h8, h9⟩ := h
  exact ⟨(h1.pg z b hz hb).1, (h1.pg z b hz hb).2.1, (h9.fr z hz (by rw [hb]; simp)).good, h9.find_one hz hb rfl⟩
/-- A page's Set. -/
theorem po_set (h : PoolT w X dg d g q r k gen all s P D none) {z b : Nat} (hz : z < 3) (hb : (P.f z).pb = some b) (i : Nat) (hi : i < 5) (t : ByteArray) (ht : okB t = true) :
    Calls Try.prog 23 #[.pointer (some ⟨b, 0, none⟩), .int .i64 (i : Int), .string t] w fun e w' => e = .returned (.bool true) ∧ PoolT w' X dg d g q r k gen all s (P.set z ⟨(P.f z).pb, (P.f z).num, (P.f z).req, (P.f z).dirty, (P.f z).since, (P.f z).pg.set i t⟩) D (some z) ∧ Out X w w' := by
  obtain ⟨l, kv, gr, h1, h2, h3, h4, h5, h6, h7, h8, h9⟩ := h
  obtain ⟨p1, p2, p3⟩ := h1.pg z b hz hb
  refine (set_in p1 i hi t ht).mono ?_
  rintro e w' ⟨rfl, hp, hg⟩
  have hk : Kept (fun k => k = b) w w' := (Kept.of_grown hg).mono (fun k e => .inl (Option.some.inj e).symm)
  have hpn : (P.f z).pb ≠ none := by rw [hb]; simp
  have hf := h9.fr z hz hpn
  refine ⟨rfl, ⟨l, kv, gr, h1.paged hz hb hk rfl rfl hp, h2, h3, h4, h5, h6, h7, h8, h9.set hz rfl hpn rfl ⟨hf.num, ⟨hf.good.1, hf.good.2.1, hf.good.2.2.1, fun j hj => ?_⟩, hf.ten, hf.pnum, hf.since, hf.lim, hf.dsince⟩ (fun e => absurd rfl e) (fun _ _ _ => by simp)⟩, hk.mono (fun k e => .inl (by rw [e]; exact p2))⟩
  show okB (if j = i then t else (P.f z).pg.s j) = true
  split
  · exact ht
  · exact hf.good.2.2.2 j hj
/-- Touch of a page at hand. -/
theorem po_touch (h : PoolT w X dg d g q r k gen all s P D x) {z b n m : Nat} (hz : z < 3) (hb : (P.f z).pb = some b) (hn : (P.f z).num = n) (hx : x = none ∨ x = some z) (hm1 : 1 ≤ m) (hm2 : m < lim gen all) (hm3 : m < 18446744073709551616) :
    Calls Try.prog 14 #[.pointer (some ⟨q, 0, none⟩), .int .i64 (n : Int), .int .u64 (m : Int)] w fun e w' => e = .returned (.tuple #[]) ∧ PoolT w' X dg d g q r k gen all s (P.set z ((P.f z).touched m)) D none ∧ Out X w w' := by
  obtain ⟨l, kv, gr, h1, h2, h3, h4, h5, h6, h7, h8, h9⟩ := h
  have hpn : (P.f z).pb ≠ none := by rw [hb]; simp
  have hf := h9.fr z hz hpn
  refine (touch_found h1 (h9.find_one hz hb hn) hb).mono ?_
  rintro e w' ⟨rfl, hp, ho⟩
  refine ⟨rfl, ⟨l, kv, gr, hp, h2, h3, h4, h5, h6, h7, h8, h9.set hz rfl hpn rfl ⟨hf.num, ⟨hm3, hf.good.2.1, hf.good.2.2.1, hf.good.2.2.2⟩, hf.ten, hf.pnum, (fun e => by cases e), hm2, fun _ => ?_⟩ (fun _ => ⟨(fun e => by cases e), fun _ => by show m ≠ 0; omega⟩) (fun i hi _ => by
    rcases hx with rfl | rfl
    · simp
    · intro e; exact hi (Option.some.inj e).symm)⟩, ho⟩
  show (if (P.f z).dirty = true then (P.f z).since else m) ≠ 0
  split
  · rename_i e; exact hf.dsince e
  · omega
/-- What Flush leaves. -/
structure Flushed (P : Po) (D : Nat → Pg) (n : Nat) (P' : Po) (D' : Nat → Pg) : Prop where
  cont : ∀ m, m < 6 → (cont P' D' m).val = (Go.Proofs.Ytkdcnddagebjpaa.cont P D m).val
  disk : (D' n).val = (Go.Proofs.Ytkdcnddagebjpaa.cont P D n).val
  frames : ∀ i, i < 3 → (P'.f i).pb = (P.f i).pb ∧ (P'.f i).num = (P.f i).num ∧ (P'.f i).pg = (P.f i).pg
  since : ∀ m, P'.sinceOf m = if m = n then 0 else P.sinceOf m
  clean : P'.cleanB n = true
/-- Flush. -/
theorem po_flush (h : PoolT w X dg d g q r k gen all s P D none) (hk : k ≤ 600000) {n : Nat} (hn : n < 6) :
    Calls Try.prog 15 #[.pointer (some ⟨q, 0, none⟩), .int .i64 (n : Int)] w fun e w' => ∃ P' D' s' d', e = .returned (.int .i64 0) ∧ Flushed P D n P' D' ∧ ApartP d d' r ∧ PoolT w' X dg d' g q r (k + 310) gen all s' P' D' none ∧ Out X w w' := by
  have hr := h.in_.1
  obtain ⟨l, kv, gr, h1, h2, h3, h4, h5, h6, h7, h8, h9⟩ := h
  have hsec := h3.secs
  have hlr : l.r = P.r := h4.trans h5.symm
  have hd5 : DIs d P.r gr k := by rw [h5]; exact h2
  have hlim := lim_take gen all s
  cases hf : P.find n with
  | none =>
    refine (flush_miss h1 hf).mono ?_
    rintro e w' ⟨rfl, rfl⟩
    refine ⟨P, D, s, d, rfl, ⟨fun _ _ => rfl, ?_, fun _ _ => ⟨rfl, rfl, rfl⟩, fun m => ?_, by unfold Po.cleanB; rw [hf]⟩, ApartP.refl _ _, ⟨l, kv, gr, h1, h2.more (by omega), h3, h4, h5, h6, h7, h8, h9⟩, Out.refl _ _⟩
    · unfold Go.Proofs.Ytkdcnddagebjpaa.cont
      rw [hf]
    · split
      · rename_i e; subst e; unfold Po.sinceOf; rw [hf]
      · rfl
  | some z =>
    obtain ⟨hz, b, hb, hbn⟩ := Po.find_b h1 hf
    have hpn : (P.f z).pb ≠ none := by rw [hb]; simp
    have hfz := h9.fr z hz hpn
    have hone : ∀ m y, P.find m = some y → y = z → m = n := by
      intro m y hm e
      subst e
      obtain ⟨_, _, h'⟩ := Po.find_some hm
      obtain ⟨_, _, h2⟩ := hasB_iff h'
      exact h2.symm.trans hbn
    have hcn : Go.Proofs.Ytkdcnddagebjpaa.cont P D n = (P.f z).pg := by unfold Go.Proofs.Ytkdcnddagebjpaa.cont; rw [hf]
    refine (flush_found h1 h3.lf hlr hd5 (by omega) (by omega) hf hb (hfz.fit hr)).mono ?_
    unfold AnyRet frT frL
    cases hdy : (P.f z).dirty
    · simp only [Bool.false_eq_true, if_false, run_nil, cond]
      rw [saved_clean hdy (hfz.since hdy), P.set_id]
      rintro e w' ⟨v, rfl, rfl, d', kv', hnx, hpa, ho⟩
      refine ⟨P, D, s, d', rfl, ⟨fun _ _ => rfl, ?_, fun _ _ => ⟨rfl, rfl, rfl⟩, fun m => ?_, by unfold Po.cleanB; rw [hf]; show (!(P.f z).dirty) = true; rw [hdy]; rfl⟩, (by rw [← h5]; exact hnx.apartP), ⟨l, kv', gr, hpa, by rw [← h5]; exact hnx.is, h3, h4, h5, hnx.same.trans h6, h7, h8, h9⟩, ho⟩
      · rw [hcn, (h9.sync z hz hpn (by simp)).same hdy, hbn]
      · split
        · rename_i e; subst e; unfold Po.sinceOf; rw [hf]; exact hfz.since hdy
        · rfl
    · simp only [if_true]
      obtain ⟨a1, a2, a3, a4, a5, a6⟩ := h3.saved h8 hfz.num (by omega) (Pg.encL_length (Pg.good_sized hfz.good))
      rw [a1, a2]
      have hsv := h9.saved (B' := (gr.run (saveT l (P.f z).num (P.f z).pg.encL)).1.base) hz hpn (by simp) hdy a5 a6 hlim
      rintro e w' ⟨v, rfl, rfl, d', kv', hnx, hpa, ho⟩
      have hfs := fun m => find_set (P := P) (z := z) (y := (P.f z).saved) rfl rfl m
      refine ⟨P.set z (P.f z).saved, _, all.length, d', rfl, ⟨fun m hm => ?_, ?_, fun i _ => ?_, fun m => ?_, by unfold Po.cleanB; rw [hfs, hf]; show (!((P.set z (P.f z).saved).f z).dirty) = true; rw [Po.set_same]; rfl⟩, (by rw [← h5]; exact hnx.apartP), ⟨_, kv', _, hpa, by rw [← h5]; exact hnx.is, a3, by rw [flL_r]; exact h4, h5, hnx.same.trans h6, ?_, a4, by rw [List.take_length]; exact hsv⟩, ho⟩
      · unfold Go.Proofs.Ytkdcnddagebjpaa.cont
        rw [hfs]
        cases hm : P.find m with
        | none =>
          show (if m = (P.f z).num then (P.f z).pg else D m).val = (D m).val
          rw [if_neg (Ne.symm (not_at hm hz hpn))]
        | some y =>
          show ((P.set z (P.f z).saved).f y).pg.val = _
          by_cases e : y = z
          · subst e; rw [Po.set_same]; rfl
          · rw [Po.set_other _ _ e]
      · rw [hcn]
        show (if n = (P.f z).num then (P.f z).pg else D n).val = _
        rw [if_pos hbn.symm]
      · by_cases e : i = z
        · subst e; rw [Po.set_same]; exact ⟨rfl, rfl, rfl⟩
        · rw [Po.set_other _ _ e]; exact ⟨rfl, rfl, rfl⟩
      · unfold Po.sinceOf
        rw [hfs]
        by_cases e : m = n
        · rw [if_pos e]
          subst e
          rw [hf]
          show ((P.set z (P.f z).saved).f z).since = 0
          rw [Po.set_same]; rfl
        · rw [if_neg e]
          cases hm : P.find m with
          | none => rfl
          | some y =>
            show ((P.set z (P.f z).saved).f y).since = _
            rw [Po.set_other _ _ (fun e2 => e (hone m y hm e2))]
      · rw [← h7]
        unfold flL
        split
        · rfl
        · rfl
theorem po_dirty (h : PoolT w X dg d g q r k gen all s P D x) :
    Calls Try.prog 26 #[.pointer (some ⟨q, 0, none⟩)] w fun e w' => ∃ b, e = .returned (.slice (some ⟨b, 0, none⟩) 6 6) ∧ w.heap.size ≤ b ∧ Blk w' b 23 (u64s (P.sinces 6)).toArray ∧ Below w.heap.size w w' := by
  obtain ⟨l, kv, gr, h1, _⟩ := h
  exact dirty_any h1
theorem po_clean (h : PoolT w X dg d g q r k gen all s P D x) (n : Nat) :
    Calls Try.prog 21 #[.pointer (some ⟨q, 0, none⟩), .int .i64 (n : Int)] w fun e w' => e = .returned (.bool (P.cleanB n)) ∧ w = w' := by
  obtain ⟨l, kv, gr, h1, _⟩ := h
  exact clean_any h1 n
/-- A touch is since then, if there was none since. -/
theorem touched_since (h : PoolT w X dg d g q r k gen all s P D x) {z b n m : Nat} (hz : z < 3) (hb : (P.f z).pb = some b) (hn : (P.f z).num = n) (i : Nat) : (P.set z ((P.f z).touched m)).sinceOf i = if i = n then (if P.sinceOf n = 0 then m else P.sinceOf n) else P.sinceOf i := by
  obtain ⟨l, kv, gr, h1, h2, h3, h4, h5, h6, h7, h8, h9⟩ := h
  have hpn : (P.f z).pb ≠ none := by rw [hb]; simp
  have hf := h9.fr z hz hpn
  have hfn := h9.find_one hz hb hn
  have hfs := fun i => find_set (P := P) (z := z) (y := (P.f z).touched m) rfl rfl i
  have hsn : P.sinceOf n = (P.f z).since := by unfold Po.sinceOf; rw [hfn]
  by_cases e : i = n
  · subst e
    rw [if_pos rfl, hsn]
    unfold Po.sinceOf
    rw [hfs, hfn]
    show ((P.set z ((P.f z).touched m)).f z).since = _
    rw [Po.set_same]
    show (if (P.f z).dirty = true then (P.f z).since else m) = _
    by_cases hd : (P.f z).dirty = true
    · rw [if_pos hd, if_neg (hf.dsince hd)]
    · rw [if_neg hd, if_pos (hf.since (Bool.eq_false_iff.2 hd))]
  · rw [if_neg e]
    unfold Po.sinceOf
    rw [hfs]
    cases hi : P.find i with
    | none => rfl
    | some y =>
      show ((P.set z ((P.f z).touched m)).f y).since = _
      rw [Po.set_other]
      intro ey
      subst ey
      obtain ⟨_, _, h'⟩ := Po.find_some hi
      obtain ⟨_, _, hin⟩ := hasB_iff h'
      exact e (hin.symm.trans hn)
/-- Where there are three pages in all, there is always room. -/
theorem three_room (h : PoolT w X dg d g q r k gen all s P D x) (hn : ∀ i, i < 3 → (P.f i).pb ≠ none → (P.f i).num < 3) {n : Nat} (hn3 : n < 3) : (∃ i, i < 3 ∧ (P.f i).pb = none) ∨ P.find n ≠ none := by
  obtain ⟨l, kv, gr, h1, h2, h3, h4, h5, h6, h7, h8, h9⟩ := h
  rcases P.free_or with ⟨z, hz, hp, _⟩ | hall
  · exact .inl ⟨z, hz, hp⟩
  · right
    intro hf
    have a0 := not_at hf (z := 0) (by omega) (hall 0 (by omega))
    have a1 := not_at hf (z := 1) (by omega) (hall 1 (by omega))
    have a2 := not_at hf (z := 2) (by omega) (hall 2 (by omega))
    have b0 := hn 0 (by omega) (hall 0 (by omega))
    have b1 := hn 1 (by omega) (hall 1 (by omega))
    have b2 := hn 2 (by omega) (hall 2 (by omega))
    have c01 : (P.f 0).num ≠ (P.f 1).num := fun e => absurd (h9.apart 0 1 (by omega) (by omega) (hall 0 (by omega)) (hall 1 (by omega)) e) (by omega)
    have c02 : (P.f 0).num ≠ (P.f 2).num := fun e => absurd (h9.apart 0 2 (by omega) (by omega) (hall 0 (by omega)) (hall 2 (by omega)) e) (by omega)
    have c12 : (P.f 1).num ≠ (P.f 2).num := fun e => absurd (h9.apart 1 2 (by omega) (by omega) (hall 1 (by omega)) (hall 2 (by omega)) e) (by omega)
    omega
theorem touched_clean (h : PoolT w X dg d g q r k gen all s (P.set q' y) D x) {n b : Nat} (hz : q' < 3) (hb : y.pb = some b) (hn : y.num = n) (hd : y.dirty = true) : (P.set q' y).cleanB n = false := by
  obtain ⟨l, kv, gr, h1, h2, h3, h4, h5, h6, h7, h8, h9⟩ := h
  unfold Po.cleanB
  rw [h9.find_one hz (b := b) (by rw [Po.set_same]; exact hb) (by rw [Po.set_same]; exact hn)]
  show (!((P.set q' y).f q').dirty) = false
  rw [Po.set_same, hd]
  rfl
end
end Go.Proofs.Ytkdcnddagebjpaa
