/-
  What stage 7's statements lean on, part 3 of 6 (put together by merge.py).
-/
import Derived.Test.YtlplibgcfhamgaaB2
namespace Go.Proofs.Ytlplibgcfhamgaa
set_option linter.unusedSimpArgs false
set_option linter.unusedVariables false
section
/- Contract: one write into a region. -/
open Go.RowKit
set_option maxRecDepth 20000

theorem range_below {w w' : World} {b o : Nat} {cs : List Value} (h : w.rangeAt b o cs) (hA : Abv w w') (hb : b < w.heap.size) : w'.rangeAt b o cs :=
  fun j v hv => (Below.cell hA (p := ⟨b, o + j, none⟩) hb).trans (h j v hv)
theorem there_below {w w' : World} {b o n : Nat} (h : w.there b o n) (hA : Abv w w') (hb : b < w.heap.size) : w'.there b o n :=
  fun j hj => ⟨by rw [Below.cell hA (p := ⟨b, o + j, none⟩) hb]; exact (h j hj).1, by rw [Below.frozen hA (p := ⟨b, o + j, none⟩) hb]; exact (h j hj).2⟩
theorem Blk.range {w : World} {b o : Nat} {t : TypeId} {cs : Array Value} {l : List Value} (h : Blk w b t cs) (hl : ∀ j, j < l.length → cs[o + j]? = l[j]?) : w.rangeAt b o l := fun j v hv => by
  have hj := (List.getElem?_eq_some_iff.1 hv).1
  exact h.cell (o + j) v ((hl j hj).trans hv)
theorem Blk.there {w : World} {b o n : Nat} {t : TypeId} {cs : Array Value} (h : Blk w b t cs) (hn : o + n ≤ cs.size) : w.there b o n := fun j hj =>
  ⟨by rw [h.cell (o + j) _ (Array.getElem?_eq_getElem (by omega))]; rfl, h.frozen _⟩
theorem Kept.frozen {S : Nat → Prop} {a b : World} (h : Kept S a b) {p : Addr} (hlt : p.block < a.heap.size) (hn : ¬ S p.block) : b.frozen? p = a.frozen? p := World.frozen?_of_block (h.block _ hlt hn)
theorem own_form_n {w : World} {base size : Nat} {e : TypeId} {v : Value} {n : Nat} {xs : List Value} (h : w.ownsRow base e size v n xs) : ∃ A c, v = .slice A n c := by
  rcases h.2 with ⟨rfl, rfl⟩ | ⟨g, cap, cur, rfl, _⟩
  · exact ⟨_, _, rfl⟩
  · exact ⟨_, _, rfl⟩
theorem own_lt {w : World} {base size : Nat} {e : TypeId} {v : Value} {n : Nat} {xs : List Value} (h : w.ownsRow base e size v n xs) {k : Nat} (hk : v.ownBlock = some k) : k < w.heap.size := by
  rcases h.2 with ⟨rfl, rfl⟩ | ⟨g, cap, cur, rfl, _, hg, _⟩
  · cases hk
  · injection hk with hk
    subst hk
    exact Blk.lt hg
theorem oneCell_c (c : Chg) : ∀ u ∈ ccells c, u.oneCell' = true := by
  intro u hu
  rcases List.mem_cons.1 hu with rfl | hu
  · rfl
  · rcases List.mem_append.1 hu with hu | hu
    · exact oneCell_u8s _ u hu
    · exact oneCell_u8s _ u hu
theorem chSize : (Value.agg (ccells ⟨0, zsec, zsec⟩).toArray).cells.size = 129 := by kernel_rfl
theorem build_ch (w : World) (s : Nat) (before after : Sec) (hb : before.length = 64) (ha : after.length = 64) :
    (Instr.build 68 #[(0, .int .i64 (s : Int)), (1, .agg (u8s before).toArray), (2, .agg (u8s after).toArray)]).run Try.prog w = .ok (.agg (ccells ⟨s, before, after⟩).toArray) w := by
  have h := run_build3 (P := Try.prog) w 68 _ _ 129 136 1 64 64 (.int .i64 (s : Int)) (.agg (u8s before).toArray) (.agg (u8s after).toArray) Try.underlying68 infoCh (by kernel_rfl) (by kernel_rfl) rfl
    (by show (u8s before).toArray.size = 64; rw [List.size_toArray, u8s_length, hb]) (by show (u8s after).toArray.size = 64; rw [List.size_toArray, u8s_length, ha])
  exact h
theorem secInfo (l : Sec) (h : l.length = 64) : (Try.prog.info? 60).map (·.size) = some (u8s l).length := by
  rw [u8s_length, h]; kernel_rfl

/-- The one new change lies in a row of its own. -/
def WrA (w1 : World) (cells : Array Value) (v : Value) (w : World) : Prop := ∃ b, v = .slice (some ⟨b, 0, none⟩) 1 1 ∧ Blk w b 68 cells ∧ Abv w1 w
/-- It stands behind the others. -/
def WrB (w1 : World) (pv : Value) (m : Nat) (xs : List Value) (v : Value) (w : World) : Prop :=
  w.ownsRow 0 68 129 v (m + 1) xs ∧ (v.ownBlock = pv.ownBlock ∨ ∃ k, v.ownBlock = some k ∧ w1.heap.size ≤ k) ∧ Kept (fun k => pv.ownBlock = some k) w1 w
/-- The region has them. -/
def WrC (w1 : World) (pv : Value) (m : Nat) (xs : List Value) (g2 o : Nat) (v : Value) (w : World) : Prop := ∃ u, WrB w1 pv m xs v u ∧ w = u.setCell ⟨g2, o + 1, none⟩ v
/-- On the way: the changes are written down, the sector may be. -/
structure WrMid (w0 : World) (g2 o sb m : Nat) (cs : Array Value) (l : List UInt8) (pv : Value) (xs : List Value) (after : Sec) (v : Value) (w : World) : Prop where
  row : Blk w g2 55 (cs.setIfInBounds (o + 1) v)
  own : w.ownsRow 0 68 129 v (m + 1) xs
  at_ : v.ownBlock = pv.ownBlock ∨ ∃ k, v.ownBlock = some k ∧ w0.heap.size ≤ k
  kept : Kept (fun k => k = g2 ∨ k = sb ∨ pv.ownBlock = some k) w0 w
  sec : Blk w sb 60 (blk8 l)
  box : Blk w w0.heap.size 60 (u8s after).toArray
theorem wr_mid1 {w0 : World} {g2 o sb m : Nat} {cs : Array Value} {l : List UInt8} {pv : Value} {xs : List Value} {after : Sec} {v : Value} {u : World} {m0 : Nat} {xs0 : List Value} (hb2 : Blk w0 g2 55 cs) (hsb : Blk w0 sb 60 (blk8 l)) (ne : g2 ≠ sb)
    (hpv : w0.ownsRow 0 68 129 pv m0 xs0) (np : ∀ k, pv.ownBlock = some k → k ≠ g2 ∧ k ≠ sb) (h : WrB (w0.alloc (.cells (u8s after).toArray 60)) pv m xs v u) : WrMid w0 g2 o sb m cs l pv xs after v (u.setCell ⟨g2, o + 1, none⟩ v) := by
  obtain ⟨ho, hat, hk⟩ := h
  have hlt := hb2.lt
  have hlt2 := hsb.lt
  have hbx : Blk (w0.alloc (.cells (u8s after).toArray 60)) w0.heap.size 60 (u8s after).toArray := Blk.new_ w0 _ _ rfl
  have h2 := hk.blk (hb2.alloc _) (fun hc => (np _ hc).1 rfl)
  have h3 := hk.blk (hsb.alloc _) (fun hc => (np _ hc).2 rfl)
  have h4 := hk.blk hbx (fun hc => by have := own_lt hpv hc; omega)
  have hK : Kept (fun k => k = g2 ∨ k = sb ∨ pv.ownBlock = some k) w0 u := (Kept.alloc _ w0 _).trans hk (fun i hi => .inl (.inr (.inr hi)))
  have hov : ∀ k, v.ownBlock = some k → k ≠ g2 := by
    intro k hv e
    subst e
    rcases hat with h | ⟨k', h, hle⟩
    · exact (np k (h.symm.trans hv)).1 rfl
    · rw [hv] at h; injection h with h; subst h; simp at hle; omega
  refine ⟨h2.set_ (o + 1) v, ?_, ?_, hK.trans (Kept.setCell u ⟨g2, o + 1, none⟩ v) (fun i hi => .inl (.inl hi)), h3.far (p := ⟨g2, o + 1, none⟩) (fun e => ne e.symm) v, h4.far (p := ⟨g2, o + 1, none⟩) (by show w0.heap.size ≠ g2; omega) v⟩
  · exact (Kept.setCell u ⟨g2, o + 1, none⟩ v).own ho (fun k hk' hc => hov k hk' hc)
  · rcases hat with h | ⟨k', h, hle⟩
    · exact .inl h
    · exact .inr ⟨k', h, by simp at hle; omega⟩
theorem wr_mid2 {w0 : World} {g2 o sb m s : Nat} {cs : Array Value} {l l' : List UInt8} {pv : Value} {xs : List Value} {after : Sec} {v : Value} {u u2 : World} (h : WrMid w0 g2 o sb m cs l pv xs after v u) (hA : Abv u u2) (hne : g2 ≠ sb) (hlt : sb < w0.heap.size)
    (nv : ∀ k, v.ownBlock = some k → k ≠ sb) (hlen : s * 64 + after.length ≤ l.length) (hl : l' = l.take (s * 64) ++ (after ++ l.drop (s * 64 + after.length))) :
    WrMid w0 g2 o sb m cs l' pv xs after v (u2.setCells sb (s * 64) (u8s after)) := by
  have hk : Kept (fun k => k = sb) u (u2.setCells sb (s * 64) (u8s after)) := (Kept.of_below hA).trans_same (Kept.setCells u2 sb (s * 64) (u8s after))
  refine ⟨hk.blk h.row hne, hk.own h.own nv, h.at_, h.kept.trans hk (fun i hi => .inl (.inr (.inl hi))), ?_, hk.blk h.box (by show ¬ w0.heap.size = sb; omega)⟩
  have := Blk.setCells (u8s after) (s * 64) u2 (blk8 l) (h.sec.below hA) (by rw [u8s_length, blk8_size]; exact hlen)
  rw [hl]
  unfold blk8 at this ⊢
  rw [u8s_length] at this
  simpa [u8s_append, u8s_take, u8s_drop] using this
theorem wr_mid3 {w0 : World} {g2 o sb m : Nat} {cs : Array Value} {l : List UInt8} {pv : Value} {xs : List Value} {after : Sec} {v x : Value} {w : World} (h : WrMid w0 g2 o sb m cs l pv xs after v w) (hne : g2 ≠ sb) (nv : ∀ k, v.ownBlock = some k → k ≠ g2) :
    Blk (w.setCell ⟨g2, o + 3, none⟩ x) g2 55 ((cs.setIfInBounds (o + 1) v).setIfInBounds (o + 3) x) ∧ Blk (w.setCell ⟨g2, o + 3, none⟩ x) sb 60 (blk8 l) ∧ (w.setCell ⟨g2, o + 3, none⟩ x).ownsRow 0 68 129 v (m + 1) xs ∧
      Kept (fun k => k = g2 ∨ k = sb ∨ pv.ownBlock = some k) w0 (w.setCell ⟨g2, o + 3, none⟩ x) :=
  ⟨h.row.set_ _ _, h.sec.far (p := ⟨g2, o + 3, none⟩) (fun e => hne e.symm) x, (Kept.setCell w ⟨g2, o + 3, none⟩ x).own h.own nv, h.kept.trans (Kept.setCell w ⟨g2, o + 3, none⟩ x) (fun _ hi => .inl (.inl hi))⟩

/-- What one write leaves. -/
def WrPost (w0 : World) (g2 o sb m : Nat) (cs : Array Value) (l : List UInt8) (pv : Value) (xs : List Value) (armed : Bool) (left : Nat) (e : Ending) (w : World) : Prop :=
  e = .returned (.tuple #[]) ∧ ∃ v, Blk w g2 55 (if armed then (cs.setIfInBounds (o + 1) v).setIfInBounds (o + 3) (.int .i64 ((left - 1 : Nat) : Int)) else cs.setIfInBounds (o + 1) v) ∧ Blk w sb 60 (blk8 l) ∧
    w.ownsRow 0 68 129 v (m + 1) xs ∧ (v.ownBlock = pv.ownBlock ∨ ∃ k, v.ownBlock = some k ∧ w0.heap.size ≤ k) ∧ Kept (fun k => k = g2 ∨ k = sb ∨ pv.ownBlock = some k) w0 w

set_option maxRecDepth 100000 in
set_option maxHeartbeats 4000000 in
theorem write_any (w0 : World) (g2 o sb s n m : Nat) (cs : Array Value) (secs : List Sec) (pv : Value) (xs0 : List Value) (armed : Bool) (left : Nat) (before after : Sec) (hb2 : Blk w0 g2 55 cs) (c0 : cs[o]? = some (.slice (some ⟨sb, 0, none⟩) n n)) (c1 : cs[o + 1]? = some pv)
    (c2 : cs[o + 2]? = some (.bool armed)) (c3 : cs[o + 3]? = some (.int .i64 (left : Int))) (hsb : Blk w0 sb 60 (blk8 secs.flatten)) (hfull : ∀ s ∈ secs, s.length = 64) (hn : secs.length = n) (hs : s < n) (hbef : secs.getD s zsec = before)
    (hla0 : after.length = 64) (hpv : w0.ownsRow 0 68 129 pv m xs0) (hm : m ≤ 1000000000000) (ne : g2 ≠ sb) (np : ∀ k, pv.ownBlock = some k → k ≠ g2 ∧ k ≠ sb) (hleft : armed = true → 0 < left) (hleft2 : left < 9223372036854775808) :
    Calls Try.prog 20 #[.pointer (some ⟨g2, o, none⟩), .int .i64 (s : Int), .agg (u8s after).toArray] w0 (WrPost w0 g2 o sb m cs (secs.set s after).flatten pv (xs0 ++ ccells ⟨s, before, after⟩) armed left) := by
  have hs' : s < secs.length := by omega
  have hlb0 : before.length = 64 := by
    rw [← hbef, List.getD_eq_getElem?_getD, List.getElem?_eq_getElem hs']
    exact hfull _ (List.getElem_mem hs')
  have hbe : secs[s] = before := by
    rw [← hbef, List.getD_eq_getElem?_getD, List.getElem?_eq_getElem hs']; rfl
  have hfl := flat_length secs hfull
  obtain ⟨xs, hxs⟩ : ∃ xs, xs = xs0 ++ ccells ⟨s, before, after⟩ := ⟨_, rfl⟩
  rw [← hxs]
  have hgl := hb2.lt
  have hsl := hsb.lt
  have hsl2 : secs.flatten.length = (blk8 secs.flatten).size := (blk8_size _).symm
  have HG := hide (show (⟨g2, o, none⟩ : Addr).block < (w0.alloc (.cells (u8s after).toArray 60)).heap.size by simp; omega)
  have HSB := hide (show sb < (w0.alloc (.cells (u8s after).toArray 60)).heap.size by simp; omega)
  have HFB := hide (show w0.heap.size < (w0.alloc (.cells (u8s after).toArray 60)).heap.size by simp)
  have HC0 := hide ((hb2.alloc (.cells (u8s after).toArray 60)).cell o _ c0)
  have HC1 := hide ((hb2.alloc (.cells (u8s after).toArray 60)).cell (o + 1) _ c1)
  have HF1 := hide ((hb2.alloc (.cells (u8s after).toArray 60)).frozen (o + 1))
  have HR := hide (Blk.range (o := s * 64) (l := u8s before) (hsb.alloc (.cells (u8s after).toArray 60)) (fun j hj => by
    rw [u8s_length, hlb0] at hj
    unfold blk8
    rw [List.getElem?_toArray]
    simp only [u8s, List.getElem?_map]
    rw [flat_get secs hfull s j hs' hj, hbe]))
  have HF := hide (Blk.range (o := 0) (l := u8s after) (Blk.new_ w0 (u8s after).toArray 60 rfl) (fun j hj => by simp))
  have HO := hide ((Kept.alloc (fun _ => False) w0 (.cells (u8s after).toArray 60)).own hpv (fun _ _ h => h))
  have HNP := hide (show ¬ (fun k => pv.ownBlock = some k) (⟨g2, o + 1, none⟩ : Addr).block from fun h => (np _ h).1 rfl)
  have HLB := hide (secInfo before hlb0)
  have HLA := hide (secInfo after hla0)
  have HLA2 := hide (show (Try.prog.info? 60).map (·.size) = some (u8s after).toArray.size by rw [List.size_toArray]; exact secInfo after hla0)
  have hlb := hide hlb0
  have hla := hide hla0
  have M1 : ∀ v u, WrB (w0.alloc (.cells (u8s after).toArray 60)) pv m xs v u → WrMid w0 g2 o sb m cs secs.flatten pv xs after v (u.setCell ⟨g2, o + 1, none⟩ v) := fun v u h => wr_mid1 hb2 hsb ne hpv np h
  have HM1 := hide M1
  have hs0 : (0 : Int) ≤ (s : Int) := by omega
  have hs1 : (s : Int) < (n : Int) := by omega
  have HN := hide hn
  have hcsz : o + 3 < cs.size := (Array.getElem?_eq_some_iff.1 c3).1
  have HNE := hide ne
  have HNPV := hide np
  have HFL := hide hfl
  have HFULL := hide hfull
  have HC2 := hide c2
  have HC3 := hide c3
  have HCS0 := hide c0
  have HLT := hide hpv
  have HBE := hide hbe
  have HXS := hide hxs
  clear hn c0 c1 c2 c3 hb2 hsb hpv hfl hfull M1 ne np hlb0 hla0 hbef hbe hsl2 hxs
  go_enter Try.func20, Try.ntmps20
  go_wp2
  refine region_phases (ops := _) (valV [some (.pointer (some ⟨g2, o, none⟩)), some (.pointer (some ⟨g2, o, none⟩)), some (.pointer (some ⟨g2, o, none⟩)), some (.pointer (some ⟨g2, o + 1, none⟩)), some (pv), some (.int .i64 (s : Int)), some (.pointer (some ⟨g2, o, none⟩)), some (.pointer (some ⟨g2, o, none⟩)), some (.pointer (some ⟨g2, o, none⟩)), some (.slice (some ⟨sb, 0, none⟩) n n), some (.int .i64 (s : Int)), some (.pointer (some ⟨sb, s * 64, none⟩)), some (.agg (u8s before).toArray), some (.agg (u8s after).toArray), some (.agg (ccells ⟨s, before, after⟩).toArray), none, none, some (.pointer (some ⟨g2, o, none⟩)), some (.pointer (some ⟨g2, o + 1, none⟩)), none]) (phased [⟨19, 16, WrC (w0.alloc (.cells (u8s after).toArray 60)) pv m xs g2 o⟩, ⟨16, 16, WrB (w0.alloc (.cells (u8s after).toArray 60)) pv m xs⟩, ⟨15, 15, WrA (w0.alloc (.cells (u8s after).toArray 60)) (ccells ⟨s, before, after⟩).toArray⟩] (fun w => Abv (w0.alloc (.cells (u8s after).toArray 60)) w)) (by kernel_rfl) (by kernel_rfl) (by kernel_rfl) (by kernel_rfl) (phased_ext (by kernel_rfl)) ?_ ?_ ?_
  · exact (Abv.refl _).drew
  · intro i o ho L a w2 hph hsz hLi hnot hyes old dep
    match i, ho with
    | 0, ho =>
      obtain rfl := Option.some.inj ho
      rw [if_pos (wanted_none rfl)]
      have o0 := old 0 (by kernel_rfl)
      refine wp_yields (v := .pointer (some ⟨g2, o, none⟩)) (w' := w2) ?_ (fun u hu => Option.some.inj (Option.some.inj hu)) (phased_quiet hLi (by rfl) hph)
      clear dep old ho hsz hph hnot hyes hLi
      go_simp
    | 1, ho =>
      obtain rfl := Option.some.inj ho
      rw [if_pos (wanted_none rfl)]
      have o0 := old 0 (by kernel_rfl)
      refine wp_yields (v := .pointer (some ⟨g2, o, none⟩)) (w' := w2) ?_ (fun u hu => Option.some.inj (Option.some.inj hu)) (phased_quiet hLi (by rfl) hph)
      clear dep old ho hsz hph hnot hyes hLi
      go_simp
    | 2, ho =>
      obtain rfl := Option.some.inj ho
      rw [if_pos (wanted_none rfl)]
      have d1 : a.tmps.getD 7 undef = .pointer (some ⟨g2, o, none⟩) := dep 1 _ _ (by kernel_rfl) rfl rfl _ rfl
      have e1 : a.tmps[7]?.getD undef = .pointer (some ⟨g2, o, none⟩) := (Array.getD_eq_getD_getElem? ..).symm.trans d1
      refine wp_yields (v := .pointer (some ⟨g2, o, none⟩)) (w' := w2) ?_ (fun u hu => Option.some.inj (Option.some.inj hu)) (phased_quiet hLi (by rfl) hph)
      clear dep old ho hsz hph hnot hyes hLi
      go_simp
    | 3, ho =>
      obtain rfl := Option.some.inj ho
      rw [if_pos (wanted_none rfl)]
      have d2 : a.tmps.getD 8 undef = .pointer (some ⟨g2, o, none⟩) := dep 2 _ _ (by kernel_rfl) rfl rfl _ rfl
      have e2 : a.tmps[8]?.getD undef = .pointer (some ⟨g2, o, none⟩) := (Array.getD_eq_getD_getElem? ..).symm.trans d2
      refine wp_yields (v := .pointer (some ⟨g2, o + 1, none⟩)) (w' := w2) ?_ (fun u hu => Option.some.inj (Option.some.inj hu)) (phased_quiet hLi (by rfl) hph)
      clear dep old ho hsz hph hnot hyes hLi
      go_simp
    | 4, ho =>
      obtain rfl := Option.some.inj ho
      rw [if_pos (wanted_none rfl)]
      have d3 : a.tmps.getD 9 undef = .pointer (some ⟨g2, o + 1, none⟩) := dep 3 _ _ (by kernel_rfl) rfl rfl _ rfl
      have e3 : a.tmps[9]?.getD undef = .pointer (some ⟨g2, o + 1, none⟩) := (Array.getD_eq_getD_getElem? ..).symm.trans d3
      have hA : Abv (w0.alloc (.cells (u8s after).toArray 60)) w2 := by
        have hph2 := hph
        unfold phased phased phased phased at hph2
        rw [if_neg (by rw [hnot 19 (by kernel_rfl)]; decide), if_neg (by rw [hnot 16 (by kernel_rfl)]; decide)] at hph2
        split at hph2
        · obtain ⟨_, b, _, _, hA⟩ := hph2; exact hA
        · exact hph2
      have hc := (Below.cell hA (p := ⟨g2, o + 1, none⟩) HG.out).trans HC1.out
      refine wp_yields (v := pv) (w' := w2) ?_ (fun u hu => Option.some.inj (Option.some.inj hu)) (phased_quiet hLi (by rfl) hph)
      clear dep old ho hsz hph hnot hyes hLi
      go_simp
    | 5, ho =>
      obtain rfl := Option.some.inj ho
      rw [if_pos (wanted_none rfl)]
      have o1 := old 1 (by kernel_rfl)
      refine wp_yields (v := .int .i64 (s : Int)) (w' := w2) ?_ (fun u hu => Option.some.inj (Option.some.inj hu)) (phased_quiet hLi (by rfl) hph)
      clear dep old ho hsz hph hnot hyes hLi
      go_simp
    | 6, ho =>
      obtain rfl := Option.some.inj ho
      rw [if_pos (wanted_none rfl)]
      have o0 := old 0 (by kernel_rfl)
      refine wp_yields (v := .pointer (some ⟨g2, o, none⟩)) (w' := w2) ?_ (fun u hu => Option.some.inj (Option.some.inj hu)) (phased_quiet hLi (by rfl) hph)
      clear dep old ho hsz hph hnot hyes hLi
      go_simp
    | 7, ho =>
      obtain rfl := Option.some.inj ho
      rw [if_pos (wanted_none rfl)]
      have d6 : a.tmps.getD 12 undef = .pointer (some ⟨g2, o, none⟩) := dep 6 _ _ (by kernel_rfl) rfl rfl _ rfl
      have e6 : a.tmps[12]?.getD undef = .pointer (some ⟨g2, o, none⟩) := (Array.getD_eq_getD_getElem? ..).symm.trans d6
      refine wp_yields (v := .pointer (some ⟨g2, o, none⟩)) (w' := w2) ?_ (fun u hu => Option.some.inj (Option.some.inj hu)) (phased_quiet hLi (by rfl) hph)
      clear dep old ho hsz hph hnot hyes hLi
      go_simp
    | 8, ho =>
      obtain rfl := Option.some.inj ho
      rw [if_pos (wanted_none rfl)]
      have d7 : a.tmps.getD 13 undef = .pointer (some ⟨g2, o, none⟩) := dep 7 _ _ (by kernel_rfl) rfl rfl _ rfl
      have e7 : a.tmps[13]?.getD undef = .pointer (some ⟨g2, o, none⟩) := (Array.getD_eq_getD_getElem? ..).symm.trans d7
      refine wp_yields (v := .pointer (some ⟨g2, o, none⟩)) (w' := w2) ?_ (fun u hu => Option.some.inj (Option.some.inj hu)) (phased_quiet hLi (by rfl) hph)
      clear dep old ho hsz hph hnot hyes hLi
      go_simp
    | 9, ho =>
      obtain rfl := Option.some.inj ho
      rw [if_pos (wanted_none rfl)]
      have d8 : a.tmps.getD 14 undef = .pointer (some ⟨g2, o, none⟩) := dep 8 _ _ (by kernel_rfl) rfl rfl _ rfl
      have e8 : a.tmps[14]?.getD undef = .pointer (some ⟨g2, o, none⟩) := (Array.getD_eq_getD_getElem? ..).symm.trans d8
      have hA : Abv (w0.alloc (.cells (u8s after).toArray 60)) w2 := phased_first (fun p hp => by simp only [List.mem_cons, List.not_mem_nil, or_false] at hp; rcases hp with rfl | rfl | rfl <;> exact hnot _ (by kernel_rfl)) hph
      have hc := (Below.cell hA (p := ⟨g2, o, none⟩) HG.out).trans HC0.out
      refine wp_yields (v := .slice (some ⟨sb, 0, none⟩) n n) (w' := w2) ?_ (fun u hu => Option.some.inj (Option.some.inj hu)) (phased_quiet hLi (by rfl) hph)
      clear dep old ho hsz hph hnot hyes hLi
      go_simp
    | 10, ho =>
      obtain rfl := Option.some.inj ho
      rw [if_pos (wanted_none rfl)]
      have o1 := old 1 (by kernel_rfl)
      refine wp_yields (v := .int .i64 (s : Int)) (w' := w2) ?_ (fun u hu => Option.some.inj (Option.some.inj hu)) (phased_quiet hLi (by rfl) hph)
      clear dep old ho hsz hph hnot hyes hLi
      go_simp
    | 11, ho =>
      obtain rfl := Option.some.inj ho
      rw [if_pos (wanted_none rfl)]
      have d9 : a.tmps.getD 15 undef = .slice (some ⟨sb, 0, none⟩) n n := dep 9 _ _ (by kernel_rfl) rfl rfl _ rfl
      have e9 : a.tmps[15]?.getD undef = .slice (some ⟨sb, 0, none⟩) n n := (Array.getD_eq_getD_getElem? ..).symm.trans d9
      have d10 : a.tmps.getD 16 undef = .int .i64 (s : Int) := dep 10 _ _ (by kernel_rfl) rfl rfl _ rfl
      have e10 : a.tmps[16]?.getD undef = .int .i64 (s : Int) := (Array.getD_eq_getD_getElem? ..).symm.trans d10
      refine wp_yields (v := .pointer (some ⟨sb, s * 64, none⟩)) (w' := w2) ?_ (fun u hu => Option.some.inj (Option.some.inj hu)) (phased_quiet hLi (by rfl) hph)
      clear dep old ho hsz hph hnot hyes hLi
      go_simp
    | 12, ho =>
      obtain rfl := Option.some.inj ho
      rw [if_pos (wanted_none rfl)]
      have d11 : a.tmps.getD 17 undef = .pointer (some ⟨sb, s * 64, none⟩) := dep 11 _ _ (by kernel_rfl) rfl rfl _ rfl
      have e11 : a.tmps[17]?.getD undef = .pointer (some ⟨sb, s * 64, none⟩) := (Array.getD_eq_getD_getElem? ..).symm.trans d11
      have hA : Abv (w0.alloc (.cells (u8s after).toArray 60)) w2 := phased_first (fun p hp => by simp only [List.mem_cons, List.not_mem_nil, or_false] at hp; rcases hp with rfl | rfl | rfl <;> exact hnot _ (by kernel_rfl)) hph
      refine wp_load_mid 60 _ rfl sb (s * 64) d11 (u8s before) _ (range_below HR.out hA HSB.out) Try.underlying60 rfl HLB.out ⟨_, rfl, (fun u hu => Option.some.inj (Option.some.inj hu)), phased_quiet hLi (by rfl) hph⟩
    | 13, ho =>
      obtain rfl := Option.some.inj ho
      rw [if_pos (wanted_none rfl)]
      have o5 := old 5 (by kernel_rfl)
      have hA : Abv (w0.alloc (.cells (u8s after).toArray 60)) w2 := phased_first (fun p hp => by simp only [List.mem_cons, List.not_mem_nil, or_false] at hp; rcases hp with rfl | rfl | rfl <;> exact hnot _ (by kernel_rfl)) hph
      refine wp_load_mid 60 _ rfl w0.heap.size 0 o5 (u8s after) _ (range_below HF.out hA HFB.out) Try.underlying60 rfl HLA.out ⟨_, rfl, (fun u hu => Option.some.inj (Option.some.inj hu)), phased_quiet hLi (by rfl) hph⟩
    | 14, ho =>
      obtain rfl := Option.some.inj ho
      rw [if_pos (wanted_none rfl)]
      have d5 : a.tmps.getD 11 undef = .int .i64 (s : Int) := dep 5 _ _ (by kernel_rfl) rfl rfl _ rfl
      have e5 : a.tmps[11]?.getD undef = .int .i64 (s : Int) := (Array.getD_eq_getD_getElem? ..).symm.trans d5
      have d12 : a.tmps.getD 18 undef = .agg (u8s before).toArray := dep 12 _ _ (by kernel_rfl) rfl rfl _ rfl
      have e12 : a.tmps[18]?.getD undef = .agg (u8s before).toArray := (Array.getD_eq_getD_getElem? ..).symm.trans d12
      have d13 : a.tmps.getD 19 undef = .agg (u8s after).toArray := dep 13 _ _ (by kernel_rfl) rfl rfl _ rfl
      have e13 : a.tmps[19]?.getD undef = .agg (u8s after).toArray := (Array.getD_eq_getD_getElem? ..).symm.trans d13
      have hr := build_ch w2 s before after hlb.out hla.out
      have d5' : a.eval (.tmp 11) = .int .i64 (s : Int) := d5
      have d12' : a.eval (.tmp 18) = .agg (u8s before).toArray := d12
      have d13' : a.eval (.tmp 19) = .agg (u8s after).toArray := d13
      refine wp_build_run (w' := w2) (v := .agg (ccells ⟨s, before, after⟩).toArray) 68 _ rfl ?_ ⟨_, rfl, (fun u hu => Option.some.inj (Option.some.inj hu)), (phased_quiet hLi (by rfl) hph)⟩
      simp only [List.map_toArray, List.map_cons, List.map_nil, d5', d12', d13']
      exact hr
    | 15, ho =>
      obtain rfl := Option.some.inj ho
      rw [if_pos (wanted_none rfl)]
      have d14 : a.tmps.getD 20 undef = .agg (ccells ⟨s, before, after⟩).toArray := dep 14 _ _ (by kernel_rfl) rfl rfl _ rfl
      have e14 : a.tmps[20]?.getD undef = .agg (ccells ⟨s, before, after⟩).toArray := (Array.getD_eq_getD_getElem? ..).symm.trans d14
      have hA : Abv (w0.alloc (.cells (u8s after).toArray 60)) w2 := phased_first (fun p hp => by simp only [List.mem_cons, List.not_mem_nil, or_false] at hp; rcases hp with rfl | rfl | rfl; exact hnot 19 (by kernel_rfl); exact hnot 16 (by kernel_rfl); exact hLi) hph
      have hr := run_slice_one (P := Try.prog) w2 53 68 (ccells ⟨s, before, after⟩).toArray _ 129 136 Try.underlying53 infoCh (by simpa using ccells_length _ hlb.out hla.out) (by omega) (by omega)
      have d14' : a.eval (.tmp 20) = .agg (ccells ⟨s, before, after⟩).toArray := d14
      refine wp_slice_run (w' := w2.alloc (.cells (ccells ⟨s, before, after⟩).toArray 68)) (v := .slice (some ⟨w2.heap.size, 0, none⟩) 1 1) 53 1 _ rfl ?_ ⟨_, rfl, (fun u hu => by cases Option.some.inj hu), ?_⟩
      · simp only [List.map_toArray, List.map_cons, List.map_nil, d14']
        exact hr
      · unfold phased phased phased
        rw [if_neg (by simp [also, hnot 19 (by kernel_rfl)]), if_neg (by simp [also, hnot 16 (by kernel_rfl)]), if_pos (by simp [also])]
        exact ⟨by simp [also], w2.heap.size, by simp [yielding], Blk.new_ w2 _ _ rfl, hA.alloc _⟩
    | 16, ho =>
      obtain rfl := Option.some.inj ho
      rw [if_pos (wanted_none rfl)]
      have d4 : a.tmps.getD 10 undef = pv := dep 4 _ _ (by kernel_rfl) rfl rfl _ rfl
      have e4 : a.tmps[10]?.getD undef = pv := (Array.getD_eq_getD_getElem? ..).symm.trans d4
      unfold phased phased phased at hph
      rw [if_neg (by rw [hnot 19 (by kernel_rfl)]; decide), if_neg (by rw [hLi]; decide), if_pos (hyes 15 (by kernel_rfl))] at hph
      obtain ⟨_, b, eb, hbb, hA⟩ := hph
      have eb' : a.eval (.tmp 21) = .slice (some ⟨b, 0, none⟩) 1 1 := eb
      have d4' : a.eval (.tmp 10) = pv := d4
      refine wp_append_rows (.tmp 10) (.tmp 21) 53 rfl (base := 0) 68 _ 129 136 Try.underlying53 infoCh chSize (by omega) pv m xs0 d4' ((Kept.of_below (S := fun _ => False) hA).own HO.out (fun _ _ h => h)) b 1 1 (ccells ⟨s, before, after⟩) eb' (ccells_length _ hlb.out hla.out) (fun j u hu => hbb.cell j u (by simpa using hu)) (oneCell_c _) (by unfold maxLen; omega) (by omega) (Nat.zero_le _) ?_
      intro v' w' hown' hgrow hat
      refine ⟨v', rfl, (fun u hu => by cases Option.some.inj hu), ?_⟩
      unfold phased phased
      rw [if_neg (by simp [also, hnot 19 (by kernel_rfl)]), if_pos (by simp [also])]
      refine ⟨by simp [also], by rw [HXS.out]; simpa [yielding] using hown', ?_, (Kept.of_below hA).trans_same (Kept.of_grown hgrow)⟩
      have := Below.size hA
      rcases hat with h | h
      · exact .inl (by simpa [yielding] using h)
      · exact .inr ⟨w2.heap.size, by simpa [yielding] using h, this⟩
    | 17, ho =>
      obtain rfl := Option.some.inj ho
      rw [if_pos (wanted_none rfl)]
      have d0 : a.tmps.getD 6 undef = .pointer (some ⟨g2, o, none⟩) := dep 0 _ _ (by kernel_rfl) rfl rfl _ rfl
      have e0 : a.tmps[6]?.getD undef = .pointer (some ⟨g2, o, none⟩) := (Array.getD_eq_getD_getElem? ..).symm.trans d0
      refine wp_yields (v := .pointer (some ⟨g2, o, none⟩)) (w' := w2) ?_ (fun u hu => Option.some.inj (Option.some.inj hu)) (phased_quiet hLi (by rfl) hph)
      clear dep old ho hsz hph hnot hyes hLi
      go_simp
    | 18, ho =>
      obtain rfl := Option.some.inj ho
      rw [if_pos (wanted_none rfl)]
      have d17 : a.tmps.getD 23 undef = .pointer (some ⟨g2, o, none⟩) := dep 17 _ _ (by kernel_rfl) rfl rfl _ rfl
      have e17 : a.tmps[23]?.getD undef = .pointer (some ⟨g2, o, none⟩) := (Array.getD_eq_getD_getElem? ..).symm.trans d17
      refine wp_yields (v := .pointer (some ⟨g2, o + 1, none⟩)) (w' := w2) ?_ (fun u hu => Option.some.inj (Option.some.inj hu)) (phased_quiet hLi (by rfl) hph)
      clear dep old ho hsz hph hnot hyes hLi
      go_simp
    | 19, ho =>
      obtain rfl := Option.some.inj ho
      rw [if_pos (wanted_none rfl)]
      have d18 : a.tmps.getD 24 undef = .pointer (some ⟨g2, o + 1, none⟩) := dep 18 _ _ (by kernel_rfl) rfl rfl _ rfl
      have e18 : a.tmps[24]?.getD undef = .pointer (some ⟨g2, o + 1, none⟩) := (Array.getD_eq_getD_getElem? ..).symm.trans d18
      unfold phased phased at hph
      rw [if_neg (by rw [hLi]; decide), if_pos (hyes 16 (by kernel_rfl))] at hph
      obtain ⟨v', ev⟩ : ∃ v', a.tmps.getD 22 undef = v' := ⟨_, rfl⟩
      have hphv : WrB (w0.alloc (.cells (u8s after).toArray 60)) pv m xs (a.tmps.getD 22 undef) w2 := hph.2
      have hphw := hphv
      rw [ev] at hphw
      have ev2 : a.tmps[22]?.getD undef = v' := (Array.getD_eq_getD_getElem? ..).symm.trans ev
      have hc := (hphw.2.2.cell (p := ⟨g2, o + 1, none⟩) HG.out HNP.out).trans HC1.out
      have hf := (Kept.frozen hphw.2.2 (p := ⟨g2, o + 1, none⟩) HG.out HNP.out).trans HF1.out
      obtain ⟨A, c, rfl⟩ := own_form_n hphw.1
      refine wp_skips (w' := w2.setCell ⟨g2, o + 1, none⟩ (.slice A (m + 1) c)) ?_ (fun u hu => by cases Option.some.inj hu) ?_
      · clear dep old ho hsz hnot hyes hLi ev hph hphv hphw
        go_simp
      · unfold phased
        rw [if_pos (by simp [also])]
        exact ⟨by simp [also, hyes 16 (by kernel_rfl)], w2, hphv, congrArg (fun v => w2.setCell ⟨g2, o + 1, none⟩ v) ev.symm⟩
    | i + 20, ho => exact absurd ho (by simp)
  · intro a w2 hph hsz hdf fin keep
    unfold phased at hph
    rw [if_pos rfl] at hph
    have hph2 : WrC (w0.alloc (.cells (u8s after).toArray 60)) pv m xs g2 o (a.tmps.getD 22 undef) w2 := hph.2
    clear hph
    obtain ⟨u, hB, hw⟩ := hph2
    obtain ⟨tm, df⟩ := a
    have hx : tm = #[tm.getD 0 undef, tm.getD 1 undef, tm.getD 2 undef, tm.getD 3 undef, tm.getD 4 undef, tm.getD 5 undef, tm.getD 6 undef, tm.getD 7 undef, tm.getD 8 undef, tm.getD 9 undef, tm.getD 10 undef, tm.getD 11 undef, tm.getD 12 undef, tm.getD 13 undef, tm.getD 14 undef, tm.getD 15 undef, tm.getD 16 undef, tm.getD 17 undef, tm.getD 18 undef, tm.getD 19 undef, tm.getD 20 undef, tm.getD 21 undef, tm.getD 22 undef, tm.getD 23 undef, tm.getD 24 undef, tm.getD 25 undef, tm.getD 26 undef, tm.getD 27 undef, tm.getD 28 undef, tm.getD 29 undef, tm.getD 30 undef, tm.getD 31 undef, tm.getD 32 undef, tm.getD 33 undef, tm.getD 34 undef, tm.getD 35 undef, tm.getD 36 undef, tm.getD 37 undef, tm.getD 38 undef, tm.getD 39 undef, tm.getD 40 undef, tm.getD 41 undef, tm.getD 42 undef] := slots_of tm 43 hsz
    have k0 : tm.getD 0 undef = .pointer (some ⟨g2, o, none⟩) := keep 0 (by kernel_rfl)
    rw [k0] at hx
    have k1 : tm.getD 1 undef = .int .i64 (s : Int) := keep 1 (by kernel_rfl)
    rw [k1] at hx
    have k5 : tm.getD 5 undef = .pointer (some ⟨w0.heap.size, 0, none⟩) := keep 5 (by kernel_rfl)
    rw [k5] at hx
    obtain rfl : df = [] := hdf
    clear fin keep hsz k0 k1 k5
    generalize tm.getD 2 undef = x2 at hx
    generalize tm.getD 3 undef = x3 at hx
    generalize tm.getD 4 undef = x4 at hx
    generalize tm.getD 6 undef = x6 at hx
    generalize tm.getD 7 undef = x7 at hx
    generalize tm.getD 8 undef = x8 at hx
    generalize tm.getD 9 undef = x9 at hx
    generalize tm.getD 10 undef = x10 at hx
    generalize tm.getD 11 undef = x11 at hx
    generalize tm.getD 12 undef = x12 at hx
    generalize tm.getD 13 undef = x13 at hx
    generalize tm.getD 14 undef = x14 at hx
    generalize tm.getD 15 undef = x15 at hx
    generalize tm.getD 16 undef = x16 at hx
    generalize tm.getD 17 undef = x17 at hx
    generalize tm.getD 18 undef = x18 at hx
    generalize tm.getD 19 undef = x19 at hx
    generalize tm.getD 20 undef = x20 at hx
    generalize tm.getD 21 undef = x21 at hx
    generalize tm.getD 22 undef = x22 at hx hB hw
    generalize tm.getD 23 undef = x23 at hx
    generalize tm.getD 24 undef = x24 at hx
    generalize tm.getD 25 undef = x25 at hx
    generalize tm.getD 26 undef = x26 at hx
    generalize tm.getD 27 undef = x27 at hx
    generalize tm.getD 28 undef = x28 at hx
    generalize tm.getD 29 undef = x29 at hx
    generalize tm.getD 30 undef = x30 at hx
    generalize tm.getD 31 undef = x31 at hx
    generalize tm.getD 32 undef = x32 at hx
    generalize tm.getD 33 undef = x33 at hx
    generalize tm.getD 34 undef = x34 at hx
    generalize tm.getD 35 undef = x35 at hx
    generalize tm.getD 36 undef = x36 at hx
    generalize tm.getD 37 undef = x37 at hx
    generalize tm.getD 38 undef = x38 at hx
    generalize tm.getD 39 undef = x39 at hx
    generalize tm.getD 40 undef = x40 at hx
    generalize tm.getD 41 undef = x41 at hx
    generalize tm.getD 42 undef = x42 at hx
    subst hx
    have hmid := HM1.out _ _ hB
    rw [← hw] at hmid
    clear hB hw u
    obtain ⟨w3, hw3⟩ : ∃ w3, w3 = w2 := ⟨_, rfl⟩
    subst hw3
    have HMID := hide hmid
    have hgl3 : g2 < w3.heap.size := Nat.lt_of_lt_of_le hgl hmid.kept.size
    have HG3 := hide (show (⟨g2, o, none⟩ : Addr).block < w3.heap.size from hgl3)
    have HSB3 := hide (show sb < w3.heap.size from Nat.lt_of_lt_of_le hsl hmid.kept.size)
    have HFB3 := hide (show w0.heap.size < w3.heap.size from hmid.box.lt)
    have HC3b := hide (hmid.row.cell o (.slice (some ⟨sb, 0, none⟩) n n) (by rw [Array.getElem?_setIfInBounds, if_neg (by omega)]; exact HCS0.out))
    have HF3 := hide (Blk.range (o := 0) (l := u8s after) hmid.box (fun j hj => by simp))
    have HT3 := hide (Blk.there (o := s * 64) (n := (u8s after).toArray.size) hmid.sec (by rw [List.size_toArray, u8s_length, hla.out, blk8_size, HFL.out, HN.out]; omega))
    clear hmid
    go_wp2
    refine region_phases (ops := _) (valV [some (.pointer (some ⟨g2, o, none⟩)), some (.pointer (some ⟨g2, o, none⟩)), some (.pointer (some ⟨g2, o, none⟩)), some (.slice (some ⟨sb, 0, none⟩) n n), some (.int .i64 (s : Int)), some (.agg (u8s after).toArray), some (.pointer (some ⟨sb, s * 64, none⟩)), none]) (phased [⟨7, 5, fun _ w => ∃ u, Abv w3 u ∧ w = u.setCells sb (s * 64) (u8s after)⟩] (fun w => Abv w3 w)) (by kernel_rfl) (by kernel_rfl) (by kernel_rfl) (by kernel_rfl) (phased_ext (by kernel_rfl)) ?_ ?_ ?_
    · exact (Abv.refl _).drew
    · intro i o ho L a w2 hph hsz hLi hnot hyes old dep
      match i, ho with
      | 0, ho =>
        obtain rfl := Option.some.inj ho
        rw [if_pos (wanted_none rfl)]
        have o0 := old 0 (by kernel_rfl)
        refine wp_yields (v := .pointer (some ⟨g2, o, none⟩)) (w' := w2) ?_ (fun u hu => Option.some.inj (Option.some.inj hu)) (phased_quiet hLi (by rfl) hph)
        clear dep old ho hsz hph hnot hyes hLi
        go_simp
      | 1, ho =>
        obtain rfl := Option.some.inj ho
        rw [if_pos (wanted_none rfl)]
        have d0 : a.tmps.getD 25 undef = .pointer (some ⟨g2, o, none⟩) := dep 0 _ _ (by kernel_rfl) rfl rfl _ rfl
        have e0 : a.tmps[25]?.getD undef = .pointer (some ⟨g2, o, none⟩) := (Array.getD_eq_getD_getElem? ..).symm.trans d0
        refine wp_yields (v := .pointer (some ⟨g2, o, none⟩)) (w' := w2) ?_ (fun u hu => Option.some.inj (Option.some.inj hu)) (phased_quiet hLi (by rfl) hph)
        clear dep old ho hsz hph hnot hyes hLi
        go_simp
      | 2, ho =>
        obtain rfl := Option.some.inj ho
        rw [if_pos (wanted_none rfl)]
        have d1 : a.tmps.getD 26 undef = .pointer (some ⟨g2, o, none⟩) := dep 1 _ _ (by kernel_rfl) rfl rfl _ rfl
        have e1 : a.tmps[26]?.getD undef = .pointer (some ⟨g2, o, none⟩) := (Array.getD_eq_getD_getElem? ..).symm.trans d1
        refine wp_yields (v := .pointer (some ⟨g2, o, none⟩)) (w' := w2) ?_ (fun u hu => Option.some.inj (Option.some.inj hu)) (phased_quiet hLi (by rfl) hph)
        clear dep old ho hsz hph hnot hyes hLi
        go_simp
      | 3, ho =>
        obtain rfl := Option.some.inj ho
        rw [if_pos (wanted_none rfl)]
        have d2 : a.tmps.getD 27 undef = .pointer (some ⟨g2, o, none⟩) := dep 2 _ _ (by kernel_rfl) rfl rfl _ rfl
        have e2 : a.tmps[27]?.getD undef = .pointer (some ⟨g2, o, none⟩) := (Array.getD_eq_getD_getElem? ..).symm.trans d2
        have hA : Abv w3 w2 := phased_first (fun p hp => by simp only [List.mem_cons, List.not_mem_nil, or_false] at hp; rcases hp with rfl <;> exact hnot _ (by kernel_rfl)) hph
        have hc := (Below.cell hA (p := ⟨g2, o, none⟩) HG3.out).trans HC3b.out
        refine wp_yields (v := .slice (some ⟨sb, 0, none⟩) n n) (w' := w2) ?_ (fun u hu => Option.some.inj (Option.some.inj hu)) (phased_quiet hLi (by rfl) hph)
        clear dep old ho hsz hph hnot hyes hLi
        go_simp
      | 4, ho =>
        obtain rfl := Option.some.inj ho
        rw [if_pos (wanted_none rfl)]
        have o1 := old 1 (by kernel_rfl)
        refine wp_yields (v := .int .i64 (s : Int)) (w' := w2) ?_ (fun u hu => Option.some.inj (Option.some.inj hu)) (phased_quiet hLi (by rfl) hph)
        clear dep old ho hsz hph hnot hyes hLi
        go_simp
      | 5, ho =>
        obtain rfl := Option.some.inj ho
        rw [if_pos (wanted_none rfl)]
        have o5 := old 5 (by kernel_rfl)
        have hA : Abv w3 w2 := phased_first (fun p hp => by simp only [List.mem_cons, List.not_mem_nil, or_false] at hp; rcases hp with rfl <;> exact hnot _ (by kernel_rfl)) hph
        refine wp_load_mid 60 _ rfl w0.heap.size 0 o5 (u8s after) _ (range_below HF3.out hA HFB3.out) Try.underlying60 rfl HLA.out ⟨_, rfl, (fun u hu => Option.some.inj (Option.some.inj hu)), ?_⟩
        unfold phased phased
        rw [if_neg (by simp [also, hnot 7 (by kernel_rfl)])]
        exact hA
      | 6, ho =>
        obtain rfl := Option.some.inj ho
        rw [if_pos (wanted_none rfl)]
        have d3 : a.tmps.getD 28 undef = .slice (some ⟨sb, 0, none⟩) n n := dep 3 _ _ (by kernel_rfl) rfl rfl _ rfl
        have e3 : a.tmps[28]?.getD undef = .slice (some ⟨sb, 0, none⟩) n n := (Array.getD_eq_getD_getElem? ..).symm.trans d3
        have d4 : a.tmps.getD 29 undef = .int .i64 (s : Int) := dep 4 _ _ (by kernel_rfl) rfl rfl _ rfl
        have e4 : a.tmps[29]?.getD undef = .int .i64 (s : Int) := (Array.getD_eq_getD_getElem? ..).symm.trans d4
        refine wp_yields (v := .pointer (some ⟨sb, s * 64, none⟩)) (w' := w2) ?_ (fun u hu => Option.some.inj (Option.some.inj hu)) (phased_quiet hLi (by rfl) hph)
        clear dep old ho hsz hph hnot hyes hLi
        go_simp
      | 7, ho =>
        obtain rfl := Option.some.inj ho
        rw [if_pos (wanted_none rfl)]
        have d5 : a.tmps.getD 30 undef = .agg (u8s after).toArray := dep 5 _ _ (by kernel_rfl) rfl rfl _ rfl
        have e5 : a.tmps[30]?.getD undef = .agg (u8s after).toArray := (Array.getD_eq_getD_getElem? ..).symm.trans d5
        have d6 : a.tmps.getD 31 undef = .pointer (some ⟨sb, s * 64, none⟩) := dep 6 _ _ (by kernel_rfl) rfl rfl _ rfl
        have e6 : a.tmps[31]?.getD undef = .pointer (some ⟨sb, s * 64, none⟩) := (Array.getD_eq_getD_getElem? ..).symm.trans d6
        unfold phased at hph
        rw [if_neg (by rw [hLi]; decide)] at hph
        have hA : Abv w3 w2 := hph
        refine wp_store_mid 60 _ _ rfl sb (s * 64) (u8s after).toArray d6 d5 (there_below HT3.out hA HSB3.out) HLA2.out (all_oneCell_toArray (oneCell_u8s after)) ⟨undef, rfl, (fun u hu => by cases Option.some.inj hu), ?_⟩
        unfold phased
        rw [if_pos (by simp [also])]
        exact ⟨by simp [also, hyes 5 (by kernel_rfl)], w2, hA, rfl⟩
      | i + 8, ho => exact absurd ho (by simp)
    · intro a w2 hph hsz hdf fin keep
      unfold phased at hph
      rw [if_pos rfl] at hph
      obtain ⟨_, u, hA, hw⟩ := hph
      obtain ⟨tm, df⟩ := a
      have hx : tm = #[tm.getD 0 undef, tm.getD 1 undef, tm.getD 2 undef, tm.getD 3 undef, tm.getD 4 undef, tm.getD 5 undef, tm.getD 6 undef, tm.getD 7 undef, tm.getD 8 undef, tm.getD 9 undef, tm.getD 10 undef, tm.getD 11 undef, tm.getD 12 undef, tm.getD 13 undef, tm.getD 14 undef, tm.getD 15 undef, tm.getD 16 undef, tm.getD 17 undef, tm.getD 18 undef, tm.getD 19 undef, tm.getD 20 undef, tm.getD 21 undef, tm.getD 22 undef, tm.getD 23 undef, tm.getD 24 undef, tm.getD 25 undef, tm.getD 26 undef, tm.getD 27 undef, tm.getD 28 undef, tm.getD 29 undef, tm.getD 30 undef, tm.getD 31 undef, tm.getD 32 undef, tm.getD 33 undef, tm.getD 34 undef, tm.getD 35 undef, tm.getD 36 undef, tm.getD 37 undef, tm.getD 38 undef, tm.getD 39 undef, tm.getD 40 undef, tm.getD 41 undef, tm.getD 42 undef] := slots_of tm 43 hsz
      have k0 : tm.getD 0 undef = .pointer (some ⟨g2, o, none⟩) := keep 0 (by kernel_rfl)
      rw [k0] at hx
      obtain rfl : df = [] := hdf
      clear fin keep hsz k0
      generalize tm.getD 1 undef = y1 at hx
      generalize tm.getD 2 undef = y2 at hx
      generalize tm.getD 3 undef = y3 at hx
      generalize tm.getD 4 undef = y4 at hx
      generalize tm.getD 5 undef = y5 at hx
      generalize tm.getD 6 undef = y6 at hx
      generalize tm.getD 7 undef = y7 at hx
      generalize tm.getD 8 undef = y8 at hx
      generalize tm.getD 9 undef = y9 at hx
      generalize tm.getD 10 undef = y10 at hx
      generalize tm.getD 11 undef = y11 at hx
      generalize tm.getD 12 undef = y12 at hx
      generalize tm.getD 13 undef = y13 at hx
      generalize tm.getD 14 undef = y14 at hx
      generalize tm.getD 15 undef = y15 at hx
      generalize tm.getD 16 undef = y16 at hx
      generalize tm.getD 17 undef = y17 at hx
      generalize tm.getD 18 undef = y18 at hx
      generalize tm.getD 19 undef = y19 at hx
      generalize tm.getD 20 undef = y20 at hx
      generalize tm.getD 21 undef = y21 at hx
      generalize tm.getD 22 undef = y22 at hx
      generalize tm.getD 23 undef = y23 at hx
      generalize tm.getD 24 undef = y24 at hx
      generalize tm.getD 25 undef = y25 at hx
      generalize tm.getD 26 undef = y26 at hx
      generalize tm.getD 27 undef = y27 at hx
      generalize tm.getD 28 undef = y28 at hx
      generalize tm.getD 29 undef = y29 at hx
      generalize tm.getD 30 undef = y30 at hx
      generalize tm.getD 31 undef = y31 at hx
      generalize tm.getD 32 undef = y32 at hx
      generalize tm.getD 33 undef = y33 at hx
      generalize tm.getD 34 undef = y34 at hx
      generalize tm.getD 35 undef = y35 at hx
      generalize tm.getD 36 undef = y36 at hx
      generalize tm.getD 37 undef = y37 at hx
      generalize tm.getD 38 undef = y38 at hx
      generalize tm.getD 39 undef = y39 at hx
      generalize tm.getD 40 undef = y40 at hx
      generalize tm.getD 41 undef = y41 at hx
      generalize tm.getD 42 undef = y42 at hx
      subst hx
      have hmid := HMID.out
      have nv : ∀ k, x22.ownBlock = some k → k ≠ g2 ∧ k ≠ sb := by
        intro k hk
        rcases hmid.at_ with h | ⟨k', h, hle⟩
        · exact HNPV.out k (h.symm.trans hk)
        · rw [hk] at h; injection h with h; subst h; omega
      have h2 := wr_mid2 (s := s) (l' := (secs.set s after).flatten) hmid hA HNE.out hsl (fun k hk => (nv k hk).2) (by rw [hla.out, HFL.out, HN.out]; omega) (by rw [flat_set secs HFULL.out after s (by rw [HN.out]; exact hs), hla.out])
      rw [← hw] at h2
      have hcc2 := h2.row.cell (o + 2) (.bool armed) (by rw [Array.getElem?_setIfInBounds, if_neg (by omega)]; exact HC2.out)
      have hcc3 := h2.row.cell (o + 3) (.int .i64 (left : Int)) (by rw [Array.getElem?_setIfInBounds, if_neg (by omega)]; exact HC3.out)
      have hcf3 := h2.row.frozen (o + 3)
      have H2 := hide h2
      have HNV := hide nv
      clear h2 nv hmid hA hw u
      cases armed
      · go_wp2
        go_end0
        exact ⟨rfl, x22, H2.out.row, H2.out.sec, H2.out.own, H2.out.at_, H2.out.kept⟩
      · have hl := hleft rfl
        have hl1 : (1 : Int) ≤ (left : Int) := by omega
        have HX := hide (show (left : Int) - 1 = ((left - 1 : Nat) : Int) by omega)
        clear hleft
        go_wp2
        go_end0
        have h3 := wr_mid3 (x := .int .i64 ((left : Int) - 1)) H2.out HNE.out (fun k hk => (HNV.out k hk).1)
        rw [HX.out] at h3
        rw [HX.out]
        exact ⟨rfl, x22, h3.1, h3.2.1, h3.2.2.1, H2.out.at_, h3.2.2.2⟩
end
section
/- A load and a store of many cells at an offset, inside a fence. -/
open Go.RowKit
set_option maxRecDepth 20000

theorem wpListIn_load_mid {F : Fence} {n : Nat} {P : Program} {w : World} {ops : Array Oper} {rest : List Oper} {o : Oper} {a : Act} {Q : Exit → Act → World → Prop} (hgd : o.guard = none) (ty : TypeId) (x : Operand) (ho : o.op = .load ty x)
    (b off : Nat) (hx : a.eval x = .pointer (some ⟨b, off, none⟩)) (cs : List Value) (d : TypeDesc) (hc : w.rangeAt b off cs) (hu : P.underlying ty = some d) (hd : d.isRow = true) (hi : (P.info? ty).map (·.size) = some cs.length)
    (h : wpListIn F n P ops Q rest (a.put o.dst (.agg cs.toArray)) w) : wpListIn F n P ops Q (o :: rest) a w := by
  refine wpListIn_plain hgd fun K hK' => ?_
  have hrun := run_loadAt_mid (P := P) w b off ty cs d hc hu hd hi
  unfold Oper.wpIn
  refine ⟨?_, ?_⟩
  · simp [Oper.about, ho]
  · rw [Oper.semAt_plain F _ _ (by rw [ho]; intro c hc'; cases hc')]
    simp only [execOp, ho, hx, Sem.run_bind, hrun, Result.andThen_ok, Sem.run_pure]
    exact hK' _ _ h
theorem wpListIn_store_mid {F : Fence} {n : Nat} {P : Program} {w : World} {ops : Array Oper} {rest : List Oper} {o : Oper} {a : Act} {Q : Exit → Act → World → Prop} (hgd : o.guard = none) (ty : TypeId) (x y : Operand) (ho : o.op = .store ty x y)
    (b off : Nat) (cells : Array Value) (hx : a.eval x = .pointer (some ⟨b, off, none⟩)) (hy : a.eval y = .agg cells) (ht : w.there b off cells.size) (hi : (P.info? ty).map (·.size) = some cells.size) (h1 : cells.all (·.oneCell') = true)
    (h : wpListIn F n P ops Q rest (a.put o.dst undef) (w.setCells b off cells.toList)) : wpListIn F n P ops Q (o :: rest) a w := by
  refine wpListIn_plain hgd fun K hK' => ?_
  have hrun := run_storeAt_mid (P := P) w b off ty cells ht hi h1
  unfold Oper.wpIn
  refine ⟨?_, ?_⟩
  · simp [Oper.about, ho]
  · rw [Oper.semAt_plain F _ _ (by rw [ho]; intro c hc'; cases hc')]
    simp only [execOp, ho, hx, hy, Sem.run_bind, hrun, Result.andThen_ok, Sem.run_pure]
    exact hK' _ _ h
end
section
/- Contract: slices.Backward over a region's changes. -/
open Go.RowKit Go.Shelf
set_option maxRecDepth 20000

attribute [local go_sem] Oper.semAt_some

/-- A change that fits a region of n sectors. -/
abbrev FC (n : Nat) := { c : Chg // c.place < n ∧ c.before.length = 64 ∧ c.after.length = 64 }
abbrev NC (n : Nat) := Nat × FC n
def encB {n : Nat} (x : NC n) : Array Value := #[.int .i64 (x.1 : Int), .agg (ccells x.2.1).toArray]
/-- What comes: the last one first. -/
def backs {n : Nat} (cl : List (FC n)) : List (NC n) := (cl.zipIdx.map fun p => (p.2, p.1)).reverse
theorem backs_length {n : Nat} (cl : List (FC n)) : (backs cl).length = cl.length := by simp [backs]
theorem backs_get {n : Nat} (cl : List (FC n)) (k q : Nat) (hk : k < cl.length) (hq : q + k + 1 = cl.length) (h1 : k < (backs cl).length) : (backs cl)[k] = (q, cl[q]'(by omega)) := by
  simp only [backs, List.getElem_reverse, List.getElem_map, List.getElem_zipIdx, List.length_map, List.length_zipIdx]
  have : cl.length - 1 - k = q := by omega
  simp [this]
theorem take_next {α : Type} (l : List α) (k : Nat) (h : k < l.length) : l.take (k + 1) = l.take k ++ [l[k]] := by
  rw [List.take_succ_eq_append_getElem h]
/-- Those blocks are as they were. -/
def Same (Q : Nat → Prop) (W W' : World) : Prop := ∀ k, Q k → W'.heap[k]? = W.heap[k]?
theorem Same.refl (Q : Nat → Prop) (W : World) : Same Q W W := fun _ _ => rfl
theorem Same.trans {Q : Nat → Prop} {A B C : World} (h : Same Q A B) (k : Same Q B C) : Same Q A C := fun i hi => (k i hi).trans (h i hi)
theorem Same.cell {Q : Nat → Prop} {A B : World} (h : Same Q A B) {p : Addr} (hp : Q p.block) : B.cell? p = A.cell? p := World.cell?_of_block (h _ hp)
theorem chInfo (c : Chg) (h1 : c.before.length = 64) (h2 : c.after.length = 64) : (Try.prog.info? 68).map (·.size) = some (ccells c).length := by
  rw [ccells_length c h1 h2]; kernel_rfl

set_option maxRecDepth 100000 in
set_option maxHeartbeats 2000000 in
theorem back1_in {m : Nat} (F : Fence) (n : Nat) (hF : F.fn 33) (hro : F.round = none) (hn : 1 ≤ n) (l Bs p len cap : Nat) (A : Option Addr) (cl : List (FC m)) (hlen : cl.length = len) (hA : 0 < len → A = some ⟨p, 0, none⟩) (hb : len ≤ 1000000000000)
    (J Jx : List (NC m) → World → Prop)
    (hY : ∀ pre x W, J pre W → pre.length < len → YieldAt F (n - 1) Try.prog l (encB x) W fun e W' =>
      (e = .returned (.bool true) ∧ J (pre ++ [x]) W' ∧ Same (fun k => k = Bs ∨ k = p) W W') ∨ (e = .returned (.bool false) ∧ Jx (pre ++ [x]) W'))
    (W : World) (hBs : W.cell? ⟨Bs, 0, none⟩ = some (.slice A len cap)) (hc : ∀ (j : Nat) (h : j < cl.length), W.rangeAt p (j * 129) (ccells cl[j].1)) (h0 : J [] W) :
    CallsIn F n Try.prog 33 #[.func (.yield l) #[] #[], .pointer (some ⟨Bs, 0, none⟩)] W fun e W' => (∃ v, e = .returned v) ∧
      ((∃ ys, ys = backs cl ∧ J ys W') ∨ (∃ pre : List (NC m), True ∧ Jx pre W')) := by
  refine callsIn_of_wp Try.func33 rfl hF ?_ hro
  simp only [Try.ntmps33, List.size_toArray, List.length_cons, List.length_nil, Nat.reduceAdd, Nat.reduceSub, Array.replicate_succ, Array.replicate_zero, List.push_toArray, List.append_toArray, List.nil_append, List.cons_append]
  have HL := hide hlen
  have HA := hide hA
  clear hlen hA
  gi_wp2
  gi_loopw [3] (fun i wr => ∃ (k : Nat) (z : Int), k ≤ len ∧ i = .int .i64 z ∧ Hid (z = (len : Int) - 1 - (k : Int)) ∧ J ((backs cl).take k) wr ∧ Same (fun k => k = Bs ∨ k = p) W wr)
    (fun i _ => (intOf i + 1).toNat)
  case atStart => exact ⟨0, _, Nat.zero_le _, rfl, hide (by omega), by simpa using h0, Same.refl _ _⟩
  case round =>
    obtain ⟨k, z, hk, rfl, hz, hJs, hsame⟩ := hrel
    have hBx := (hsame.cell (p := ⟨Bs, 0, none⟩) (.inl rfl)).trans hBs
    by_cases hlt : k < len
    · obtain ⟨q, rfl⟩ : ∃ q : Nat, z = (q : Int) := ⟨z.toNat, by have := hz.out; omega⟩
      have hqk := hz.out
      have hql : q < cl.length := by rw [HL.out]; omega
      have hkl : k < (backs cl).length := by rw [backs_length, HL.out]; exact hlt
      have hx : (backs cl)[k]'hkl = (q, cl[q]'hql) := backs_get cl k q (by rw [HL.out]; exact hlt) (by rw [HL.out]; omega) hkl
      obtain rfl := HA.out (by omega)
      obtain ⟨fn, tmps, assign, body, hy, hR⟩ := hY _ (q, cl[q]) wr hJs (by rw [List.length_take, backs_length, HL.out]; omega)
      unfold encB at hy
      dsimp only at hy
      have hrg : wr.rangeAt p (q * 129) (ccells cl[q].1) := fun j v hv => (hsame.cell (p := ⟨p, q * 129 + j, none⟩) (.inr rfl)).trans (hc q hql j v hv)
      have HRG := hide hrg
      have hq0 : (0 : Int) ≤ (q : Int) := by omega
      have hq1 : (q : Int) < (len : Int) := by omega
      have HQ := hide hqk
      have HX := hide hx
      clear hqk hx hrg hz
      gi_wp2_with ((with_reducible refine wpListIn_load_mid rfl 68 (.tmp 15) rfl p (q * 129) rfl (ccells cl[q].1) _ ?_ Try.underlying68 ?_ ?_ ?_); exact HRG.out; rfl; exact (chInfo _ cl[q].2.2.1 cl[q].2.2.2))
      refine hR.mono ?_
      rintro e W3 (⟨rfl, hJ3, hk3⟩ | ⟨rfl, hJx3⟩)
      · gi_wp2
        go_roundw
        case rel => exact ⟨k + 1, (q : Int) - 1, by omega, rfl, hide (by have := HQ.out; omega), by rw [take_next _ _ hkl, HX.out]; exact hJ3, hsame.trans hk3⟩
        case measure => simp [intOf]
      · gi_wp2
        refine bodyPost_ret (results_none rfl _ _ _) rfl ?_
        exact ⟨⟨_, rfl⟩, .inr ⟨_, trivial, hJx3⟩⟩
    · obtain rfl : k = len := by omega
      have hz' : z = -1 := by have := hz.out; omega
      subst hz'
      clear hz
      gi_wp2
      go_end0
      exact ⟨⟨_, rfl⟩, .inl ⟨_, rfl, by rw [List.take_of_length_le (by rw [backs_length, HL.out]; exact Nat.le_refl _)] at hJs; exact hJs⟩⟩
set_option maxHeartbeats 1000000 in
/-- slices.Backward(s): the slice is boxed; the function value captures the box. -/
theorem back_in (F : Fence) (n : Nat) (hF : F.fn 29) (hro : F.round = none) (a : Option Addr) (len cap : Nat) (w : World) :
    CallsIn F n Try.prog 29 #[.slice a len cap] w fun e w' => e = .returned (.func (.func 33) #[] #[.pointer (some ⟨w.heap.size, 0, none⟩)]) ∧ w' = w.alloc (.cells #[.slice a len cap] 53) := by
  refine callsIn_of_wp Try.func29 rfl hF ?_ hro
  simp only [Try.ntmps29, List.size_toArray, List.length_cons, List.length_nil, Nat.reduceAdd, Nat.reduceSub, Array.replicate_succ, Array.replicate_zero, List.push_toArray, List.append_toArray, List.nil_append, List.cons_append]
  gi_wp2
  go_ret
  exact ⟨rfl, rfl⟩
theorem back_stops {m : Nat} (F : Fence) (n : Nat) (hF : F.fn 33) (hro : F.round = none) (hn : 1 ≤ n) (Bs p len cap : Nat) (A : Option Addr) (cl : List (FC m)) (hlen : cl.length = len) (hA : 0 < len → A = some ⟨p, 0, none⟩) (hb : len ≤ 1000000000000)
    (w : World) (hBl : Bs < w.heap.size) (hpl : 0 < len → p < w.heap.size) (hBs : w.cell? ⟨Bs, 0, none⟩ = some (.slice A len cap)) (hc : ∀ (j : Nat) (h : j < cl.length), w.rangeAt p (j * 129) (ccells cl[j].1)) :
    SeqStopsK F n Try.prog 33 #[.pointer (some ⟨Bs, 0, none⟩)] encB (Same (fun k => k = Bs ∨ k = p)) (fun ys => ys = backs cl) (fun _ => True) len w := fun l J Jx W hW _ _ hY h0 =>
  back1_in F n hF hro hn l Bs p len cap A cl hlen hA hb J Jx hY W ((hW.cell (p := ⟨Bs, 0, none⟩) hBl).trans hBs) (fun j h i v hv => (hW.cell (p := ⟨p, j * 129 + i, none⟩) (hpl (by omega))).trans (hc j h i v hv)) h0
theorem sameK_b {Q : Nat → Prop} {w : World} (hQ : ∀ k, Q k → k < w.heap.size) (W : World) (l : Nat) (o o' : Obj) (hl : w.heap.size ≤ l) (_ : W.heap[l]? = some o) (_ : o.isCells = false) (_ : o.isWalk = false) : Same Q W (W.putObj l o') :=
  fun k hk => World.putObj_heap_other (by have := hQ k hk; omega)
end
section
/- A disk behind one write (memory alone; no walk). -/
open Go.RowKit
set_option maxRecDepth 20000

def Ds.write (d : Ds) (i : Nat) (r : Rg) (s : Nat) (b : Sec) : Ds := ⟨d.size, d.regs.set i (r.write s b), d.writes + 1⟩
def Ds.barrier (d : Ds) (i : Nat) (r : Rg) : Ds := ⟨d.size, d.regs.set i r.barrier, d.writes⟩
def Ds.arm (d : Ds) (i : Nat) (r : Rg) (n : Int) : Ds := ⟨d.size, d.regs.set i (r.arm n), d.writes⟩
def Ds.crash (d : Ds) (m : Nat → Bool) : Ds := ⟨d.size, d.regs.map (Rg.crash m), d.writes⟩

/-- What a disk's call leaves of the rest. -/
def DkStep (w w' : World) (lab lab' : Nat → Nat) : Prop := Kept (fun k => lab k ≠ 0) w w' ∧ ∀ k, lab' k ≠ 0 → lab k ≠ 0 ∨ (w.heap.size ≤ k ∧ k < w'.heap.size)
theorem DkStep.refl (w : World) (lab : Nat → Nat) : DkStep w w lab lab := ⟨Kept.refl _ _, fun _ h => .inl h⟩

/-- A region's four cells are turned, and blocks of its own: the others are as they were. -/
theorem rg_others {w w' : World} {lab lab' : Nat → Nat} {cs cs' : Array Value} {i j n : Nat} {r : Rg} {S : Nat → Prop} (h : RgAt w lab cs j n r) (hij : j ≠ i) (hk : Kept S w w') (hS : ∀ k, S k → lab k = 1 ∨ lab k = 2 ∨ lab k = 3 + i * 2 ∨ lab k = 4 + i * 2)
    (hcs : ∀ p, p < i * 4 ∨ i * 4 + 4 ≤ p → cs'[p]? = cs[p]?) (hlab : ∀ k, k < w.heap.size → lab k ≠ 3 + i * 2 → lab k ≠ 4 + i * 2 → lab' k = lab k) : RgAt w' lab' cs' j n r := by
  obtain ⟨sb, pv, h0, h1, h2, h3, hl, hb, ho, hp, hf⟩ := h
  refine ⟨sb, pv, (hcs _ (by omega)).trans h0, (hcs _ (by omega)).trans h1, (hcs _ (by omega)).trans h2, (hcs _ (by omega)).trans h3, ?_, hk.blk hb (fun hc => ?_), hk.own ho (fun k hk' hc => ?_), fun k hk' => ?_, hf⟩
  · rw [hlab sb hb.lt (by omega) (by omega)]; exact hl
  · have := hS _ hc; omega
  · have := hS _ hc; have := hp k hk'; omega
  · have := hp k hk'
    rw [hlab k (own_lt ho hk') (by omega) (by omega)]; exact this

theorem dk_written {w w4 : World} {lab : Nat → Nat} {g : Nat} {d : Ds} {i s : Nat} {r : Rg} {b : Sec} (h : DkAt w lab g d) (hi : d.regs[i]? = some r) (hs : s < d.size) (hb64 : b.length = 64)
    {g2 sb : Nat} {cs : Array Value} {pv v : Value} (hg2 : lab g2 = 2) (hbg : Blk w g 51 #[.slice (some ⟨g2, 0, none⟩) d.regs.length d.regs.length, .int .i64 (d.writes : Int)]) (hcs : cs.size = d.regs.length * 4)
    (hall : ∀ i r, d.regs[i]? = some r → RgAt w lab cs i d.size r) (c0 : cs[i * 4]? = some (.slice (some ⟨sb, 0, none⟩) d.size d.size)) (c2 : cs[i * 4 + 2]? = some (.bool r.armed)) (hlsb : lab sb = 3 + i * 2)
    (hown : ∀ k, pv.ownBlock = some k → lab k = 4 + i * 2)
    (hrow : Blk w4 g2 55 (if r.armed then (cs.setIfInBounds (i * 4 + 1) v).setIfInBounds (i * 4 + 3) (.int .i64 ((r.left - 1 : Nat) : Int)) else cs.setIfInBounds (i * 4 + 1) v)) (c3 : cs[i * 4 + 3]? = some (.int .i64 (r.left : Int)))
    (hsec : Blk w4 sb 60 (blk8 (r.secs.set s b).flatten)) (hv : w4.ownsRow 0 68 129 v (r.ws.length + 1) (pcells r.pend ++ ccells ⟨s, r.secs.getD s zsec, b⟩))
    (hat : v.ownBlock = pv.ownBlock ∨ ∃ k, v.ownBlock = some k ∧ w.heap.size ≤ k) (hk : Kept (fun k => k = g2 ∨ k = sb ∨ pv.ownBlock = some k) w w4) (hfit : r.Fit d.size) :
    ∃ lab', DkAt (w4.setCell ⟨g, 1, none⟩ (.int .i64 ((d.writes + 1 : Nat) : Int))) lab' g (d.write i r s b) ∧ DkStep w (w4.setCell ⟨g, 1, none⟩ (.int .i64 ((d.writes + 1 : Nat) : Int))) lab lab' := by
  obtain ⟨hl, hg, hz, _⟩ := h
  have hilt : i < d.regs.length := (List.getElem?_eq_some_iff.1 hi).1
  have hK : Kept (fun k => k = g ∨ k = g2 ∨ k = sb ∨ pv.ownBlock = some k) w (w4.setCell ⟨g, 1, none⟩ (.int .i64 ((d.writes + 1 : Nat) : Int))) :=
    (hk.mono (fun k h => .inl (.inr h))).trans (Kept.setCell w4 ⟨g, 1, none⟩ _) (fun k h => .inl (.inl h))
  have hlabS : ∀ k, (k = g ∨ k = g2 ∨ k = sb ∨ pv.ownBlock = some k) → lab k = 1 ∨ lab k = 2 ∨ lab k = 3 + i * 2 ∨ lab k = 4 + i * 2 := by
    rintro k (rfl | rfl | rfl | h)
    · exact .inl hg
    · exact .inr (.inl hg2)
    · exact .inr (.inr (.inl hlsb))
    · exact .inr (.inr (.inr (hown k h)))
  have hvold : ∀ k, v.ownBlock = some k → k < w.heap.size → lab k = 4 + i * 2 := by
    intro k hk' hlt
    rcases hat with h | ⟨k', h, hle⟩
    · exact hown k (h ▸ hk')
    · rw [hk'] at h; injection h with h; omega
  have hgw : Blk w4 g 51 #[.slice (some ⟨g2, 0, none⟩) d.regs.length d.regs.length, .int .i64 (d.writes : Int)] := hk.blk hbg (fun hc => by
    have : lab g = 2 ∨ lab g = 3 + i * 2 ∨ lab g = 4 + i * 2 := by
      rcases hc with e | e | e
      · exact .inl (e ▸ hg2)
      · exact .inr (.inl (e ▸ hlsb))
      · exact .inr (.inr (hown g e))
    omega)
  have hdec : ∀ k, v.ownBlock = some k ∨ ¬ v.ownBlock = some k := fun k => Classical.em _
  refine ⟨fun k => if v.ownBlock = some k then 4 + i * 2 else lab k, ⟨fun k hk' => ?_, ?_, by simpa [Ds.write] using hz, g2, _, ?_, ?_, hrow.far (p := ⟨g, 1, none⟩) (fun e => ?_) _, ?_, fun j r' hj => ?_⟩, hK.mono (fun k h => ?_), fun k hk' => ?_⟩
  · show k < (w4.setCell _ _).heap.size
    simp only at hk'
    split at hk'
    · rename_i hvk
      have := own_lt hv hvk
      simpa [World.setCell] using this
    · exact Nat.lt_of_lt_of_le (hl k hk') hK.size
  · simp only
    rw [if_neg (fun hc => ?_)]
    · exact hg
    · have := hvold g hc hbg.lt; omega
  · simp only
    rw [if_neg (fun hc => ?_)]
    · exact hg2
    · have h2 : g2 < w.heap.size := hl g2 (by omega)
      have := hvold g2 hc h2; omega
  · have := hgw.set_ 1 (.int .i64 ((d.writes + 1 : Nat) : Int))
    simpa [Ds.write] using this
  · have : g2 = g := e
    rw [this, hg] at hg2; cases hg2
  · cases r.armed <;> simp [Ds.write, hcs]
  · simp only [Ds.write] at hj ⊢
    rw [List.getElem?_set] at hj
    by_cases hji : i = j
    · subst hji
      rw [if_pos rfl, if_pos hilt] at hj
      injection hj with hj
      subst hj
      have hcz : i * 4 + 3 < cs.size := by omega
      have hne4 : sb ≠ g := fun e => by rw [e, hg] at hlsb; omega
      refine ⟨sb, v, ?_, ?_, ?_, ?_, ?_, ?_, ?_, fun k hk' => by simp [hk'], hfit.write hs hb64⟩
      · cases r.armed
        · simp only [Bool.false_eq_true, if_false]; rw [Array.getElem?_setIfInBounds, if_neg (by omega)]; exact c0
        · simp only [if_true]; rw [Array.getElem?_setIfInBounds, if_neg (by omega), Array.getElem?_setIfInBounds, if_neg (by omega)]; exact c0
      · cases r.armed
        · simp only [Bool.false_eq_true, if_false]; rw [Array.getElem?_setIfInBounds, if_pos rfl, if_pos (by omega)]
        · simp only [if_true]; rw [Array.getElem?_setIfInBounds, if_neg (by omega), Array.getElem?_setIfInBounds, if_pos rfl, if_pos (by omega)]
      · have : (r.write s b).armed = r.armed := rfl
        rw [this, ← c2]
        cases r.armed
        · simp only [Bool.false_eq_true, if_false]; rw [Array.getElem?_setIfInBounds, if_neg (by omega)]
        · simp only [if_true]; rw [Array.getElem?_setIfInBounds, if_neg (by omega), Array.getElem?_setIfInBounds, if_neg (by omega)]
      · have : (r.write s b).left = if r.armed then r.left - 1 else r.left := rfl
        rw [this]
        cases r.armed
        · simp only [Bool.false_eq_true, if_false]; rw [Array.getElem?_setIfInBounds, if_neg (by omega)]; exact c3
        · simp only [if_true]; rw [Array.getElem?_setIfInBounds, if_pos rfl, if_pos (by simp; omega)]
      · simp only
        rw [if_neg (fun hc => ?_)]
        · exact hlsb
        · have := hvold sb hc (hl sb (by omega)); omega
      · rw [Rg.secs_write]
        exact hsec.far (p := ⟨g, 1, none⟩) hne4 _
      · rw [Rg.pend_write, pcells_append, pcells_one]
        have e : (r.write s b).ws.length = r.ws.length + 1 := by simp [Rg.write]
        rw [e]
        refine (Kept.setCell w4 ⟨g, 1, none⟩ _).own hv (fun k hk' hc => ?_)
        have hc' : k = g := hc
        subst hc'
        have := hvold k hk' hbg.lt; omega
    · rw [if_neg hji] at hj
      refine rg_others (i := i) (hall j r' hj) (fun e => hji e.symm) hK hlabS (fun p hp => ?_) (fun k hk' h3 h4 => ?_)
      · cases r.armed
        · simp only [Bool.false_eq_true, if_false]; rw [Array.getElem?_setIfInBounds, if_neg (by omega)]
        · simp only [if_true]; rw [Array.getElem?_setIfInBounds, if_neg (by omega), Array.getElem?_setIfInBounds, if_neg (by omega)]
      · exact if_neg (fun hc => h4 (hvold k hc hk'))
  · have := hlabS k h
    left; omega
  · simp only at hk'
    split at hk'
    · rename_i hvk
      by_cases hlt : k < w.heap.size
      · left; have := hvold k hvk hlt; omega
      · right; have := own_lt hv hvk; exact ⟨by omega, by simpa [World.setCell] using this⟩
    · exact .inl hk'
end
section
/- Contracts: a disk's Write, Barrier, Arm, Read, Waits, Writes, Down. -/
open Go.RowKit
set_option maxRecDepth 20000

/-- The region that there is. -/
def Ds.at? (d : Ds) (r : Int) : Option Rg := if r < 0 then none else d.regs[r.toNat]?
/-- What Write answers. -/
def Ds.wrCode (d : Ds) (r s : Int) (n : Nat) : Int :=
  match d.at? r with
  | none => 1
  | some g => if s < 0 ∨ (d.size : Int) ≤ s ∨ 64 < n then 1 else if g.down then 10 else 0
def Ds.wr (d : Ds) (r s : Int) (l : List UInt8) : Ds :=
  match d.at? r with
  | none => d
  | some g => if s < 0 ∨ (d.size : Int) ≤ s ∨ 64 < l.length then d else if g.down then d else d.write r.toNat g s.toNat (pad l)
/-- What a call of a disk's leaves: its answer, the disk, the rest. -/
def DkRet (w : World) (lab : Nat → Nat) (g : Nat) (v : Value) (d' : Ds) (e : Ending) (w' : World) : Prop := e = .returned v ∧ ∃ lab', DkAt w' lab' g d' ∧ DkStep w w' lab lab'

theorem pad_splice (l : List UInt8) : splice (u8s zsec) 0 (u8s l) = u8s (pad l) := by
  unfold splice pad
  rw [u8s_append, List.take_zero, List.nil_append, Nat.zero_add, u8s_length, ← u8s_drop]
  congr 2
  exact List.drop_replicate ..

theorem write_bad0 {w : World} {lab : Nat → Nat} {g : Nat} {d : Ds} (h : DkAt w lab g d) (r s : Int) (A : Option Addr) (n c : Nat) (hr : d.at? r = none) :
    Calls Try.prog 8 #[ptr g, .int .i64 r, .int .i64 s, .slice A n c] w fun e w' => e = .returned (.int .i64 1) ∧ w = w' := by
  obtain ⟨_, _, _, g2, cs, _, hb, _⟩ := id h
  have hout : r < 0 ∨ (d.regs.length : Int) ≤ r := by
    unfold Ds.at? at hr
    split at hr
    · exact .inl ‹_›
    · right; rw [List.getElem?_eq_none_iff] at hr; omega
  go_enter Try.func8, Try.ntmps8
  go_wp2_with (first
    | (go_at_call 17; refine (region_out hb r hout).mono ?_; rintro e w1 ⟨rfl, rfl⟩)
    | (go_at_call 18; refine (has_nil s _).mono ?_; rintro e w1 ⟨rfl, rfl⟩))
  go_ret
  exact ⟨rfl, rfl⟩
theorem write_nil (r s : Int) (A : Option Addr) (n c : Nat) (w : World) : Calls Try.prog 8 #[.pointer none, .int .i64 r, .int .i64 s, .slice A n c] w fun e w' => e = .returned (.int .i64 1) ∧ w = w' := by
  go_enter Try.func8, Try.ntmps8
  go_wp2_with (first
    | (go_at_call 17; refine (region_nil r _).mono ?_; rintro e w1 ⟨rfl, rfl⟩)
    | (go_at_call 18; refine (has_nil s _).mono ?_; rintro e w1 ⟨rfl, rfl⟩))
  go_ret
  exact ⟨rfl, rfl⟩
theorem at_some {d : Ds} {r : Int} {rg : Rg} (h : d.at? r = some rg) : ∃ i : Nat, r = (i : Int) ∧ i < d.regs.length ∧ d.regs[i]? = some rg := by
  unfold Ds.at? at h
  split at h
  · cases h
  · refine ⟨r.toNat, by omega, (List.getElem?_eq_some_iff.1 h).1, h⟩
theorem write_bad1 {w : World} {lab : Nat → Nat} {g : Nat} {d : Ds} (h : DkAt w lab g d) (r s : Int) (A : Option Addr) (n c : Nat) {rg : Rg} (hr : d.at? r = some rg) (hs : s < 0 ∨ (d.size : Int) ≤ s) :
    Calls Try.prog 8 #[ptr g, .int .i64 r, .int .i64 s, .slice A n c] w fun e w' => e = .returned (.int .i64 1) ∧ w = w' := by
  obtain ⟨i, rfl, hi, hri⟩ := at_some hr
  obtain ⟨_, _, _, g2, cs, _, hb, hb2, hcs, hall⟩ := id h
  obtain ⟨sb, pv, c0, _⟩ := hall i rg hri
  have hc := hb2.cell _ _ c0
  go_enter Try.func8, Try.ntmps8
  go_wp2_with (first
    | (go_at_call 17; refine (region_some hb i hi).mono ?_; rintro e w1 ⟨rfl, rfl⟩)
    | (go_at_call 18; refine (has_no hc s hs).mono ?_; rintro e w1 ⟨rfl, rfl⟩))
  go_ret
  exact ⟨rfl, rfl⟩
theorem write_bad2 {w : World} {lab : Nat → Nat} {g : Nat} {d : Ds} (h : DkAt w lab g d) (r : Int) (s : Nat) (A : Option Addr) (n c : Nat) {rg : Rg} (hr : d.at? r = some rg) (hs : s < d.size) (hn : 64 < n) :
    Calls Try.prog 8 #[ptr g, .int .i64 r, .int .i64 (s : Int), .slice A n c] w fun e w' => e = .returned (.int .i64 1) ∧ w = w' := by
  obtain ⟨i, rfl, hi, hri⟩ := at_some hr
  obtain ⟨_, _, _, g2, cs, _, hb, hb2, hcs, hall⟩ := id h
  obtain ⟨sb, pv, c0, _⟩ := hall i rg hri
  have hc := hb2.cell _ _ c0
  have hn' : (64 : Int) < (n : Int) := by omega
  go_enter Try.func8, Try.ntmps8
  go_wp2_with (first
    | (go_at_call 17; refine (region_some hb i hi).mono ?_; rintro e w1 ⟨rfl, rfl⟩)
    | (go_at_call 18; refine (has_yes hc s hs).mono ?_; rintro e w1 ⟨rfl, rfl⟩))
  go_ret
  exact ⟨rfl, rfl⟩
theorem write_down {w : World} {lab : Nat → Nat} {g : Nat} {d : Ds} (h : DkAt w lab g d) (r : Int) (s : Nat) (A : Option Addr) (n c : Nat) {rg : Rg} (hr : d.at? r = some rg) (hs : s < d.size) (hn : n ≤ 64) (hd : rg.down = true) :
    Calls Try.prog 8 #[ptr g, .int .i64 r, .int .i64 (s : Int), .slice A n c] w fun e w' => e = .returned (.int .i64 10) ∧ w = w' := by
  obtain ⟨i, rfl, hi, hri⟩ := at_some hr
  obtain ⟨_, _, _, g2, cs, _, hb, hb2, hcs, hall⟩ := id h
  obtain ⟨sb, pv, c0, c1, c2, c3, _⟩ := hall i rg hri
  have hc := hb2.cell _ _ c0
  have hdn := down_any rg.armed rg.left (hb2.cell _ _ c2) (hb2.cell _ _ c3)
  unfold Rg.down at hd
  rw [hd] at hdn
  have hdec : decide ((64 : Int) < (n : Int)) = false := by simp; omega
  clear hd
  go_enter Try.func8, Try.ntmps8
  go_wp2_with (first
    | (go_at_call 17; refine (region_some hb i hi).mono ?_; rintro e w1 ⟨rfl, rfl⟩)
    | (go_at_call 18; refine (has_yes hc s hs).mono ?_; rintro e w1 ⟨rfl, rfl⟩)
    | (go_at_call 19; refine hdn.mono ?_; rintro e w1 ⟨rfl, rfl⟩))
  go_ret
  exact ⟨rfl, rfl⟩

set_option maxRecDepth 100000 in
set_option maxHeartbeats 2000000 in
theorem write_ok {w : World} {lab : Nat → Nat} {g : Nat} {d : Ds} (h : DkAt w lab g d) (r : Int) (s : Nat) (A : Option Addr) (c : Nat) (l : List UInt8) {rg : Rg} (hr : d.at? r = some rg) (hs : s < d.size) (hn : l.length ≤ 64) (hd : rg.down = false)
    (hv : Rd w (.slice A l.length c) (u8s l)) (hw : d.writes ≤ 1000000000000) (hm : rg.ws.length ≤ 1000000000000) (hl2 : rg.left < 9223372036854775808) :
    Calls Try.prog 8 #[ptr g, .int .i64 r, .int .i64 (s : Int), .slice A l.length c] w (DkRet w lab g (.int .i64 0) (d.write r.toNat rg s (pad l))) := by
  obtain ⟨i, rfl, hi, hri⟩ := at_some hr
  obtain ⟨hl, hg, hz, g2, cs, hg2, hb, hb2, hcs, hall⟩ := id h
  obtain ⟨sb, pv, c0, c1, c2, c3, hlsb, hsb, hown, hpl, hfit⟩ := hall i rg hri
  have hc := hb2.cell _ _ c0
  have hdn := down_any rg.armed rg.left (hb2.cell _ _ c2) (hb2.cell _ _ c3)
  have hd' : (rg.armed && rg.left == 0) = false := hd
  rw [hd'] at hdn
  have hdec : decide ((64 : Int) < (l.length : Int)) = false := by simp; omega
  have hleft : rg.armed = true → 0 < rg.left := by
    intro ha
    rw [ha, Bool.true_and, beq_eq_false_iff_ne] at hd'
    omega
  have hA : ∀ O, 0 < (u8s l).length → ∃ ad, A = some ad ∧ ∀ j v, (u8s l)[j]? = some v → (w.alloc O).cell? (ad.add j) = some v := by
    intro O hp
    obtain ⟨A', c', he, hcc, hcell⟩ := hv
    injection he with e1 e2 e3
    subst e1
    obtain ⟨b, o, rfl, hbl, hce⟩ := hcell hp
    refine ⟨_, rfl, fun j v hj => ?_⟩
    rw [addr_add]
    exact (World.cell?_alloc_lt w O ⟨b, o + j, none⟩ hbl).trans (hce j v hj)
  have HA := hide hA
  have HN := hide hn
  have hpad := pad_length l hn
  have HPAD := hide hpad
  have ne2 : g2 ≠ sb := fun e => by rw [e, hlsb] at hg2; omega
  have np2 : ∀ k, pv.ownBlock = some k → k ≠ g2 ∧ k ≠ sb := fun k hk => ⟨fun e => by have := hpl k hk; rw [e, hg2] at this; omega, fun e => by have := hpl k hk; rw [e, hlsb] at this; omega⟩
  have nS : ¬ (fun k => k = g2 ∨ k = sb ∨ pv.ownBlock = some k) g := by
    rintro (e | e | e)
    · rw [← e, hg] at hg2; cases hg2
    · rw [← e, hg] at hlsb; omega
    · have := hpl g e; omega
  have CC : ∀ w2, Below w.heap.size w w2 → Blk w2 w.heap.size 60 (u8s (pad l)).toArray →
      Calls Try.prog 20 #[.pointer (some ⟨g2, i * 4, none⟩), .int .i64 (s : Int), .agg (u8s (pad l)).toArray] w2 (fun e w3 => e = .returned (.tuple #[]) ∧ w3.cell? ⟨g, 1, none⟩ = some (.int .i64 (d.writes : Int)) ∧ w3.frozen? ⟨g, 1, none⟩ = false ∧
        Hid (∃ lab', DkAt (w3.setCell ⟨g, 1, none⟩ (.int .i64 ((d.writes + 1 : Nat) : Int))) lab' g (d.write i rg s (pad l)) ∧ DkStep w (w3.setCell ⟨g, 1, none⟩ (.int .i64 ((d.writes + 1 : Nat) : Int))) lab lab')) := by
    intro w2 hB2 _
    have hkb := Kept.of_below (S := fun _ => False) hB2
    refine (write_any w2 g2 (i * 4) sb s d.size rg.ws.length cs rg.secs pv (pcells rg.pend) rg.armed rg.left _ (pad l) (hb2.below hB2) c0 c1 c2 c3 (hsb.below hB2) hfit.secs_full hfit.secs_length hs rfl hpad (hkb.own hown (fun _ _ h => h)) hm ne2 np2 hleft (by omega)).mono ?_
    rintro e w3 ⟨rfl, v, hrow, hsec, hown3, hat3, hk3⟩
    have hk : Kept (fun k => k = g2 ∨ k = sb ∨ pv.ownBlock = some k) w w3 := (Kept.of_below hB2).trans_same hk3
    have hbg := hk.blk hb nS
    refine ⟨rfl, hbg.cell 1 _ rfl, hbg.frozen 1, ?_⟩
    refine dk_written h hri hs hpad hg2 hb hcs hall c0 c2 hlsb hpl hrow c3 hsec hown3 ?_ hk hfit
    rcases hat3 with h | ⟨k, h, hle⟩
    · exact .inl h
    · exact .inr ⟨k, h, Nat.le_trans hB2.size hle⟩
  have HH := hide h
  have HDR := hide hri
  clear hd hd' h hown hsb hall hfit hb2 hA nS np2 ne2 hpad hv
  unfold ptr
  go_enter Try.func8, Try.ntmps8
  go_wp2_with (first
    | (go_at_call 17; refine (region_some hb i hi).mono ?_; rintro e w1 ⟨rfl, rfl⟩)
    | (go_at_call 18; refine (has_yes hc s hs).mono ?_; rintro e w1 ⟨rfl, rfl⟩)
    | (go_at_call 19; refine hdn.mono ?_; rintro e w1 ⟨rfl, rfl⟩)
    | ((with_reducible refine wpList_copy_splice rfl (.tmp 25) (.tmp 26) 31 31 rfl 5 Try.underlying31 (by kernel_rfl) (some ⟨w.heap.size, 0, none⟩) A 64 64 l.length c rfl rfl w.heap.size 0 (u8s zsec) 60 ?_ (u8s l) ?_ ?_ ?_ (oneCell_u8s l) w.heap.size w ?_ (Nat.le_refl _) ?_); exact Blk.new_ w (u8s zsec).toArray _ rfl; (rw [u8s_length]; exact (Nat.min_eq_left HN.out).symm); exact (fun hp => ⟨rfl, HA.out _ hp⟩); (rw [u8s_length, u8s_length]; simpa [zsec] using HN.out); exact (Below.refl _ w).alloc (Nat.le_refl _) _; intro w2 HG2 hB2; have HB2 := hide hB2; have HG3 := hide (show Blk w2 w.heap.size 60 (u8s (pad l)).toArray by rw [← pad_splice l]; exact HG2.out); clear HG2 hB2)
    | ((with_reducible refine wpList_load_row rfl 60 (.tmp 10) rfl w.heap.size rfl 60 (u8s (pad l)).toArray (0, 0) _ ?_ Try.underlying60 ?_ ?_ ?_); exact HG3.out; rfl; (rw [List.size_toArray]; exact secInfo (pad l) HPAD.out))
    | (go_at_call 20; refine (CC w2 HB2.out HG3.out).mono ?_; rintro e w3 ⟨rfl, hc31, hf31, H3⟩))
  go_ret
  exact ⟨rfl, by simpa using H3.out⟩
end
section
/- Contracts: a disk's Barrier, Arm, Waits, Writes, Down, Read. -/
open Go.RowKit
set_option maxRecDepth 20000

/-- Region i has turned, and nothing else. -/
theorem dk_turned {w w' : World} {lab : Nat → Nat} {g : Nat} {d : Ds} {i : Nat} {r r' : Rg} {S : Nat → Prop} (h : DkAt w lab g d) (hi : d.regs[i]? = some r) {g2 : Nat} {cs cs' : Array Value} (hg2 : lab g2 = 2)
    (hbg : Blk w g 51 #[.slice (some ⟨g2, 0, none⟩) d.regs.length d.regs.length, .int .i64 (d.writes : Int)]) (hcs : cs.size = d.regs.length * 4) (hall : ∀ i r, d.regs[i]? = some r → RgAt w lab cs i d.size r)
    (hk : Kept S w w') (hS : ∀ k, S k → lab k = 2 ∨ lab k = 3 + i * 2 ∨ lab k = 4 + i * 2) (hrow : Blk w' g2 55 cs') (hsize : cs'.size = cs.size) (hout : ∀ p, p < i * 4 ∨ i * 4 + 4 ≤ p → cs'[p]? = cs[p]?) (hri : RgAt w' lab cs' i d.size r') :
    DkAt w' lab g ⟨d.size, d.regs.set i r', d.writes⟩ ∧ DkStep w w' lab lab := by
  obtain ⟨hl, hg, hz, _⟩ := h
  have hilt : i < d.regs.length := (List.getElem?_eq_some_iff.1 hi).1
  refine ⟨⟨fun k hk' => Nat.lt_of_lt_of_le (hl k hk') hk.size, hg, by simpa using hz, g2, cs', hg2, by simpa using hk.blk hbg (fun hc => by have := hS _ hc; omega), hrow, by simp [hsize, hcs], fun j r'' hj => ?_⟩, hk.mono (fun k hk' => by have := hS _ hk'; left; omega), fun _ h => .inl h⟩
  simp only at hj ⊢
  rw [List.getElem?_set] at hj
  by_cases hji : i = j
  · subst hji
    rw [if_pos rfl, if_pos hilt] at hj
    injection hj with hj
    subst hj
    exact hri
  · rw [if_neg hji] at hj
    exact rg_others (i := i) (hall j r'' hj) (fun e => hji e.symm) hk (fun k hc => by have := hS _ hc; omega) hout (fun _ _ _ _ => rfl)

/-- What Barrier answers, and leaves. -/
def Ds.brCode (d : Ds) (r : Int) : Int := match d.at? r with | none => 1 | some g => if g.down then 10 else 0
def Ds.br (d : Ds) (r : Int) : Ds := match d.at? r with | none => d | some g => if g.down then d else d.barrier r.toNat g
def Ds.ar (d : Ds) (r n : Int) : Ds := match d.at? r with | none => d | some g => d.arm r.toNat g n

theorem out_of {d : Ds} {r : Int} (hr : d.at? r = none) : r < 0 ∨ (d.regs.length : Int) ≤ r := by
  unfold Ds.at? at hr
  split at hr
  · exact .inl ‹_›
  · right; rw [List.getElem?_eq_none_iff] at hr; omega

theorem barrier_bad {w : World} {lab : Nat → Nat} {g : Nat} {d : Ds} (h : DkAt w lab g d) (r : Int) (hr : d.at? r = none) :
    Calls Try.prog 9 #[ptr g, .int .i64 r] w fun e w' => e = .returned (.int .i64 1) ∧ w = w' := by
  obtain ⟨_, _, _, g2, cs, _, hb, _⟩ := id h
  have hout := out_of hr
  go_enter Try.func9, Try.ntmps9
  go_wp2_with (go_at_call 17; refine (region_out hb r hout).mono ?_; rintro e w1 ⟨rfl, rfl⟩)
  go_ret
  exact ⟨rfl, rfl⟩
theorem barrier_nil (r : Int) (w : World) : Calls Try.prog 9 #[.pointer none, .int .i64 r] w fun e w' => e = .returned (.int .i64 1) ∧ w = w' := by
  go_enter Try.func9, Try.ntmps9
  go_wp2_with (go_at_call 17; refine (region_nil r _).mono ?_; rintro e w1 ⟨rfl, rfl⟩)
  go_ret
  exact ⟨rfl, rfl⟩
theorem barrier_down {w : World} {lab : Nat → Nat} {g : Nat} {d : Ds} (h : DkAt w lab g d) (r : Int) {rg : Rg} (hr : d.at? r = some rg) (hd : rg.down = true) :
    Calls Try.prog 9 #[ptr g, .int .i64 r] w fun e w' => e = .returned (.int .i64 10) ∧ w = w' := by
  obtain ⟨i, rfl, hi, hri⟩ := at_some hr
  obtain ⟨_, _, _, g2, cs, _, hb, hb2, hcs, hall⟩ := id h
  obtain ⟨sb, pv, c0, c1, c2, c3, _⟩ := hall i rg hri
  have hdn := down_any rg.armed rg.left (hb2.cell _ _ c2) (hb2.cell _ _ c3)
  unfold Rg.down at hd
  rw [hd] at hdn
  clear hd
  go_enter Try.func9, Try.ntmps9
  go_wp2_with (first
    | (go_at_call 17; refine (region_some hb i hi).mono ?_; rintro e w1 ⟨rfl, rfl⟩)
    | (go_at_call 19; refine hdn.mono ?_; rintro e w1 ⟨rfl, rfl⟩))
  go_ret
  exact ⟨rfl, rfl⟩
theorem barrier_ok {w : World} {lab : Nat → Nat} {g : Nat} {d : Ds} (h : DkAt w lab g d) (r : Int) {rg : Rg} (hr : d.at? r = some rg) (hd : rg.down = false) :
    Calls Try.prog 9 #[ptr g, .int .i64 r] w (DkRet w lab g (.int .i64 0) (d.barrier r.toNat rg)) := by
  obtain ⟨i, rfl, hi, hri⟩ := at_some hr
  obtain ⟨_, hg, _, g2, cs, hg2, hb, hb2, hcs, hall⟩ := id h
  obtain ⟨sb, pv, c0, c1, c2, c3, hlsb, hsb, hown, hpl, hfit⟩ := id (hall i rg hri)
  have hdn := down_any rg.armed rg.left (hb2.cell _ _ c2) (hb2.cell _ _ c3)
  have hc1 := hb2.cell _ _ c1
  have hf1 := hb2.frozen (i * 4 + 1)
  unfold Rg.down at hd
  rw [hd] at hdn
  have hlt : i * 4 + 3 < cs.size := (Array.getElem?_eq_some_iff.1 c3).1
  have H := hide (show DkAt (w.setCell ⟨g2, i * 4 + 1, none⟩ (.slice none 0 0)) lab g (d.barrier i rg) ∧ DkStep w (w.setCell ⟨g2, i * 4 + 1, none⟩ (.slice none 0 0)) lab lab by
    have hk := Kept.setCell w ⟨g2, i * 4 + 1, none⟩ (.slice none 0 0)
    refine dk_turned (r' := rg.barrier) (cs' := cs.setIfInBounds (i * 4 + 1) (.slice none 0 0)) h hri hg2 hb hcs hall hk (fun k hc => .inl (by rw [show k = g2 from hc]; exact hg2)) (hb2.set_ _ _) (by simp)
      (fun p hp => by rw [Array.getElem?_setIfInBounds, if_neg (by omega)]) ⟨sb, .slice none 0 0, ?_, ?_, ?_, ?_, hlsb, ?_, ⟨rfl, .inl ⟨rfl, rfl⟩⟩, (fun _ h => by cases h), hfit.barrier⟩
    · rw [Array.getElem?_setIfInBounds, if_neg (by omega)]; exact c0
    · rw [Array.getElem?_setIfInBounds, if_pos rfl, if_pos (by omega)]
    · rw [Array.getElem?_setIfInBounds, if_neg (by omega)]; exact c2
    · rw [Array.getElem?_setIfInBounds, if_neg (by omega)]; exact c3
    · exact hk.blk hsb (fun hc => by have : sb = g2 := hc; rw [this, hg2] at hlsb; omega))
  clear hd hall hown hfit h
  unfold ptr
  go_enter Try.func9, Try.ntmps9
  go_wp2_with (first
    | (go_at_call 17; refine (region_some hb i hi).mono ?_; rintro e w1 ⟨rfl, rfl⟩)
    | (go_at_call 19; refine hdn.mono ?_; rintro e w1 ⟨rfl, rfl⟩))
  go_ret
  exact ⟨rfl, lab, H.out.1, H.out.2⟩
/-- Barrier, whatever region. -/
theorem barrier_any {w : World} {lab : Nat → Nat} {g : Nat} {d : Ds} (h : DkAt w lab g d) (r : Int) : Calls Try.prog 9 #[ptr g, .int .i64 r] w (DkRet w lab g (.int .i64 (d.brCode r)) (d.br r)) := by
  unfold Ds.brCode Ds.br
  cases hr : d.at? r with
  | none => exact (barrier_bad h r hr).mono fun e w' ⟨he, hw⟩ => ⟨he, lab, hw ▸ h, hw ▸ DkStep.refl _ _⟩
  | some rg =>
    simp only
    cases hd : rg.down
    · exact barrier_ok h r hr hd
    · exact (barrier_down h r hr hd).mono fun e w' ⟨he, hw⟩ => ⟨he, lab, hw ▸ h, hw ▸ DkStep.refl _ _⟩


/-- Waits, Down, Writes. -/
def Ds.waits (d : Ds) (r : Int) : Nat := match d.at? r with | none => 0 | some g => g.ws.length
def Ds.dn (d : Ds) (r : Int) : Bool := match d.at? r with | none => false | some g => g.down
end
section
/- The law of phases, inside a fence: for regions whose operations call nothing. -/
open Go.RowKit
set_option maxRecDepth 20000

/-- An operation that calls nothing. -/
def plainOp : Op → Bool
  | .move _ | .load .. | .store .. | .fieldAddr .. | .indexAddr .. | .nilCheck _ => true
  | _ => false
/-- What such an operation comes to: a value, nothing, or an end. -/
def lone_ : Result Next → Prop
  | .ok (.value _) _ => True
  | .ok .skip _ => True
  | .halt _ _ => True
  | _ => False
section
variable {P : Program} {w : World}
theorem lone_value (s : Sem Value) : lone_ ((do pure (Next.value (← s)) : Sem Next).run P w) := by
  rw [Sem.run_bind]
  cases s.run P w <;> trivial
theorem lone_skip (s : Sem Unit) : lone_ ((do s; pure Next.skip : Sem Next).run P w) := by
  rw [Sem.run_bind]
  cases s.run P w <;> trivial
theorem plain_run {o : Oper} (ρ : Operand → Value) (h : plainOp o.op = true) : lone_ ((execOp ρ o).run P w) := by
  unfold execOp
  cases ho : o.op <;> rw [ho] at h <;> try (cases h)
  · trivial
  · exact lone_value _
  · exact lone_skip _
  · dsimp only
    split
    · simp [runtimePanic, lone_]
    · simp [runtimePanic, lone_]
    · simp [runtimePanic, lone_]
    · split
      · simp [runtimePanic, lone_]
      · simp only [Sem.run_bind]
        generalize (program).run P w = r1
        cases r1 with
        | halt x w' => trivial
        | ok q w1 =>
          simp only [Result.andThen]
          generalize Sem.run P _ w1 = r2
          cases r2 with
          | halt x w' => trivial
          | ok b w2 =>
            simp only []
            by_cases hb : (b != some false) = true
            · rw [if_pos hb]; simp [unsupported, lone_]
            · rw [if_neg hb]; simp [lone_]
      · trivial
    · trivial
  · exact lone_value _
  · exact lone_value _
theorem about_plain {o : Oper} {ρ : Operand → Value} (h : plainOp o.op = true) : o.about P w ρ = none := by
  unfold Oper.about
  cases ho : o.op <;> rw [ho] at h <;> first | rfl | cases h
theorem wpIn_of_plain {F : Fence} {n : Nat} {o : Oper} {a : Act} {K : Act → World → Prop} {Q : Exit → Act → World → Prop} (hp : plainOp o.op = true) (h : o.wp P a w K Q) : o.wpIn F n P a w K Q := by
  unfold Oper.wpIn
  refine ⟨fun f hf => (by rw [about_plain hp] at hf; cases hf), ?_⟩
  rw [Oper.semAt_plain F _ _ (by intro c hc; rw [hc] at hp; cases hp)]
  unfold Oper.wp at h
  have hl := plain_run (P := P) (w := w) a.eval hp
  generalize (execOp a.eval o).run P w = r at *
  cases r with
  | ok x w' => cases x <;> first | exact h | exact hl.elim
  | halt x w' => cases x <;> exact h
variable {ops : Array Oper} {Q : Exit → Act → World → Prop}
theorem wpAnyIn_nowP {F : Fence} {n : Nat} {V : Nat → Value → Prop} {M : Phases} {a0 : Act} (hpl : (ops.all fun o => plainOp o.op) = true) (hB : onceB ops = true) (hR : roomB ops a0.tmps.size = true) (hM : ∀ L L' f f' w, (∀ j, j < ops.size → L j = L' j) → (∀ j, j < ops.size → L j = true → (∃ o d, ops[j]? = some o ∧ o.dst = some d) → f j = f' j) → M L f w → M L' f' w)
    (duty : ∀ i o, ops[i]? = some o → DutyP P ops Q V M a0 i o)
    (fin : ∀ listed a w, Region.ready .any ops listed = [] → NowP ops V M a0 listed a w → Q .normal a w) :
    ∀ (fuel : Nat) (listed : Array Bool) (a : Act) (w : World), ((List.range ops.size).filter fun i => !listed.getD i true).length ≤ fuel → NowP ops V M a0 listed a w → wpAnyIn F n P .any ops Q fuel listed a w := by
  intro fuel
  induction fuel with
  | zero =>
    intro listed a w hf hn
    have hr : Region.ready .any ops listed = [] := by
      have h0 : ((List.range ops.size).filter fun i => !listed.getD i true) = [] := List.eq_nil_of_length_eq_zero (by omega)
      unfold Region.ready
      rw [List.filter_eq_nil_iff] at h0 ⊢
      intro i hi
      have := h0 i hi
      simp only [Bool.and_eq_true, not_and]
      intro h1
      exact absurd h1 this
    exact ⟨hr, fin _ _ _ hr hn⟩
  | succ fuel ih =>
    intro listed a w hf hn
    refine ⟨fun hr => fin _ _ _ hr hn, fun i hi => ?_⟩
    have hmem := hi
    unfold Region.ready at hmem
    rw [List.mem_filter, List.mem_range] at hmem
    have ho : ops[i]? = some ops[i] := Array.getElem?_eq_getElem hmem.1
    have hready := hmem.2
    rw [ho] at hready
    simp only [Option.map_some, Option.getD_some, Bool.and_eq_true, Bool.not_eq_true'] at hready
    have hl : i < listed.size := by rw [hn.len]; exact hmem.1
    have hfuel : ((List.range ops.size).filter fun k => !(listed.setIfInBounds i true).getD k true).length ≤ fuel := by
      have h1 : ∀ l : List Nat, (l.filter fun k => !(listed.setIfInBounds i true).getD k true).length + (l.filter fun k => k == i).length ≤ (l.filter fun k => !listed.getD k true).length := by
        intro l
        induction l with
        | nil => simp
        | cons x l ihl =>
          simp only [List.filter_cons]
          by_cases e : x = i
          · subst e
            have e1 : (listed.setIfInBounds x true).getD x true = true := by
              simp only [Array.getD_eq_getD_getElem?, Array.getElem?_setIfInBounds]; simp [hl]
            simp only [e1, hready.1, beq_self_eq_true, Bool.not_true, Bool.not_false, if_true, Bool.false_eq_true, if_false, List.length_cons]
            omega
          · have e1 : (listed.setIfInBounds i true).getD x true = listed.getD x true := by
              simp only [Array.getD_eq_getD_getElem?, Array.getElem?_setIfInBounds]
              rw [if_neg (fun h => e h.symm)]
            have e2 : (x == i) = false := by simp [e]
            simp only [e1, e2, Bool.false_eq_true, if_false]
            split
            · simp only [List.length_cons]; omega
            · exact ihl
      have h2 := h1 (List.range ops.size)
      have h3 : 1 ≤ ((List.range ops.size).filter fun k => k == i).length := by
        have : i ∈ (List.range ops.size).filter fun k => k == i := by simp [hmem.1]
        exact List.length_pos_of_mem this
      omega
    have hif : listed.getD i false = false := by
      have h3 := hready.1
      simp only [Array.getD_eq_getD_getElem?] at h3 ⊢
      rw [Array.getElem?_eq_getElem hl] at h3 ⊢
      simpa using h3
    have hbehind : ∀ j, behind ops i j = true → listed.getD j false = true := by
      intro j hb
      unfold behind at hb
      rw [ho] at hb
      simp only [Option.map_some, Option.getD_some, Array.any_eq_true'] at hb
      obtain ⟨e', he', hbb⟩ := hb
      have h3 := hready.2
      rw [Array.all_eq_true'] at h3
      have h4 := h3 e' he'
      simp only [Bool.and_eq_true, beq_iff_eq] at hbb
      rw [hbb.1, hbb.2] at h4
      simpa using h4
    unfold wpOpIn
    rw [ho]
    have hd := duty i _ ho (fun j => listed.getD j false) a w hn.phase hn.size hif (fun j hj => by
        cases hx : listed.getD j false with
        | false => rfl
        | true => rw [ahead_spec hn.shut hj hx] at hif; cases hif) hbehind
      (fun t ht => hn.old t (fun j oj hj hoj hdst => by
        unfold oldB at ht
        rw [List.all_eq_true] at ht
        have h1 := ht j (List.mem_range.2 (Array.getElem?_eq_some_iff.1 hoj).1)
        rw [hoj] at h1
        simp only [Option.map_some, Option.getD_some, Bool.or_eq_true, hdst, bne_self_eq_false, Bool.false_eq_true, false_or] at h1
        have h2 := hn.shut j i hj h1
        rw [h2] at hif
        cases hif))
      (fun j oj d hb hoj hdst => hn.done_ j oj d (hbehind j hb) hoj hdst)
    have hpo : plainOp (ops[i]).op = true := by
      rw [Array.all_eq_true'] at hpl
      exact hpl _ (Array.mem_of_getElem? ho)
    show if Region.wanted ops[i] (yielded ops a.tmps) = true then _ else _
    split at hd
    · rename_i hw
      rw [if_pos hw]
      refine Oper.wpIn_mono ?_ (wpIn_of_plain hpo hd)
      rintro a' w' ⟨v, rfl, hv, hph⟩
      exact ih _ _ _ hfuel (hn.step hB hR hM hi ho hv hph)
    · rename_i hw
      rw [if_neg hw]
      refine ⟨fun f hf => (by rw [about_plain hpo] at hf; cases hf), ?_⟩
      exact ih _ _ _ hfuel (hn.step hB hR hM hi ho hd.1 hd.2)

/-- The law. -/
theorem region_phasesIn {F : Fence} {n : Nat} {id : Nat} {a0 : Act} {w0 : World} (V : Nat → Value → Prop) (M : Phases) (hm : P.follows .mixedOrders = true) (hpl : (ops.all fun o => plainOp o.op) = true) (hB : onceB ops = true) (hR : roomB ops a0.tmps.size = true) (hlow : lowB ops = true)
    (hM : ∀ L L' f f' w, (∀ j, j < ops.size → L j = L' j) → (∀ j, j < ops.size → L j = true → (∃ o d, ops[j]? = some o ∧ o.dst = some d) → f j = f' j) → M L f w → M L' f' w)
    (h0 : M (fun _ => false) (got ops a0) w0.drew)
    (duty : ∀ i o, ops[i]? = some o → DutyP P ops Q V M a0 i o)
    (fin : ∀ a w, M (fun _ => true) (got ops a) w → a.tmps.size = a0.tmps.size → a.defers = a0.defers → (∀ (j : Nat) (o : Oper) (d : Tmp), ops[j]? = some o → o.dst = some d → V j (a.tmps.getD d undef)) →
      (∀ t : Tmp, neverB ops t = true → a.tmps.getD t undef = a0.tmps.getD t undef) → Q .normal a w) :
    (Code.region id ops true).wpIn F n P Q a0 w0 := by
  refine wpIn_region_any hm ?_
  have hrep : ∀ j, (Array.replicate ops.size false).getD j false = false := by
    intro j
    simp only [Array.getD_eq_getD_getElem?, Array.getElem?_replicate]
    split <;> rfl
  refine wpAnyIn_nowP hpl hB hR hM duty ?_ _ _ _ _ (Nat.le_trans (List.length_filter_le _ _) (by simp)) ⟨hM _ _ _ _ _ (fun j _ => (hrep j).symm) (fun _ _ h => by cases h) h0, rfl, rfl, by simp, ?_, fun _ _ => rfl, ?_⟩
  · intro listed a w hr hn
    have hall := hend_of hlow listed hn.len hr
    refine fin a w (hM _ _ _ _ _ (fun j hj => hall j hj) (fun _ _ _ _ => rfl) hn.phase) hn.size hn.defers (fun j o d ho hd => hn.done_ j o d (hall j (Array.getElem?_eq_some_iff.1 ho).1) ho hd) (fun t ht => hn.old t (fun j o _ ho hd => by
      unfold neverB at ht
      rw [Array.all_eq_true'] at ht
      have := ht o (Array.mem_of_getElem? ho)
      rw [hd] at this
      simp at this))
  · intro j o d hj
    rw [hrep] at hj; cases hj
  · intro j i hj
    rw [hrep] at hj; cases hj

end
end
section
/- Contract: a region behind a crash. -/
open Go.RowKit Go.Shelf
set_option maxRecDepth 20000

attribute [local go_sem] Oper.semAt_some

/-- Sectors, those changes taken back. -/
def backTo {n : Nat} (l : List Sec) (pre : List (NC n)) : List Sec := pre.foldl (fun l x => l.set x.2.1.place x.2.1.before) l
theorem backTo_snoc {n : Nat} (l : List Sec) (pre : List (NC n)) (x : NC n) : backTo l (pre ++ [x]) = (backTo l pre).set x.2.1.place x.2.1.before := by simp [backTo]
theorem backTo_length {n : Nat} (pre : List (NC n)) : ∀ l : List Sec, (backTo l pre).length = l.length := by
  induction pre with
  | nil => intro l; rfl
  | cons x pre ih => intro l; show (backTo (l.set _ _) pre).length = _; rw [ih, List.length_set]
theorem backTo_full {n : Nat} (pre : List (NC n)) : ∀ l : List Sec, (∀ s ∈ l, s.length = 64) → ∀ s ∈ backTo l pre, s.length = 64 := by
  induction pre with
  | nil => intro l h; exact h
  | cons x pre ih =>
    intro l h
    refine ih _ (fun s hs => ?_)
    rcases List.mem_or_eq_of_mem_set hs with h1 | rfl
    · exact h s h1
    · exact x.2.2.2.1
theorem backTo_backs {n : Nat} (cl : List (FC n)) (l : List Sec) : backTo l (backs cl) = undo (cl.map (·.1)) l := by
  unfold backTo backs undo
  rw [List.foldl_reverse, List.foldr_map, List.foldr_map]
  have : ∀ (cl : List (FC n)) (k : Nat), List.foldr (fun (x : FC n × Nat) (y : List Sec) => y.set x.1.1.place x.1.1.before) l (cl.zipIdx k) = List.foldr (fun (x : FC n) (y : List Sec) => y.set x.1.place x.1.before) l cl := by
    intro cl
    induction cl with
    | nil => intro k; rfl
    | cons c cl ih => intro k; rw [List.zipIdx_cons, List.foldr_cons, List.foldr_cons, ih]
  exact this cl 0
theorem ch_before (c : Chg) : ∀ j, j < (u8s c.before).length → (ccells c).toArray[1 + j]? = (u8s c.before)[j]? := by
  intro j hj
  rw [List.getElem?_toArray, Nat.add_comm]
  show (u8s c.before ++ u8s c.after)[j]? = _
  rw [List.getElem?_append_left hj]
theorem ch_after (c : Chg) (hb : c.before.length = 64) : ∀ j, j < (u8s c.after).length → (ccells c).toArray[65 + j]? = (u8s c.after)[j]? := by
  intro j hj
  rw [List.getElem?_toArray, show 65 + j = (64 + j) + 1 by omega]
  show (u8s c.before ++ u8s c.after)[64 + j]? = _
  rw [List.getElem?_append_right (by rw [u8s_length, hb]; omega), u8s_length, hb]
  congr 1; omega
/-- A change, whole, in a new block. -/
theorem new_change (W : World) (z : Array Value) (c : Chg) (hz : z.size = 129) (hb : c.before.length = 64) (ha : c.after.length = 64) :
    Blk ((W.alloc (.cells z 68)).setCells W.heap.size 0 (ccells c)) W.heap.size 68 (ccells c).toArray ∧ Kept (fun _ => False) W ((W.alloc (.cells z 68)).setCells W.heap.size 0 (ccells c)) := by
  have hl := ccells_length c hb ha
  refine ⟨?_, ?_⟩
  · have := Blk.setCells (ccells c) 0 (W.alloc (.cells z 68)) z (Blk.new_ W z 68 rfl) (by omega)
    rw [List.take_zero, List.nil_append, List.drop_eq_nil_of_le (by simp; omega), List.append_nil] at this
    exact this
  · exact (Kept.alloc _ W _).trans (Kept.setCells _ W.heap.size 0 (ccells c)) (fun k hk => .inr (Nat.le_of_eq hk.symm))
theorem sec_set {W u : World} {sb place : Nat} {l : List Sec} {b : Sec} (h : Blk W sb 60 (blk8 l.flatten)) (hA : Abv W u) (hfull : ∀ s ∈ l, s.length = 64) (hp : place < l.length) (hb : b.length = 64) :
    Blk (u.setCells sb (place * 64) (u8s b)) sb 60 (blk8 (l.set place b).flatten) := by
  have := Blk.setCells (u8s b) (place * 64) u (blk8 l.flatten) (h.below hA) (by rw [u8s_length, hb, blk8_size, flat_length l hfull]; omega)
  rw [flat_set l hfull b place hp]
  unfold blk8 at this ⊢
  rw [u8s_length, hb] at this
  simpa [u8s_append, u8s_take, u8s_drop] using this
set_option maxRecDepth 10000 in
theorem zero_ch : ∃ z : Array Value, z.size = 129 ∧ ∀ w, (zeroValue 68).run Try.prog w = .ok (.agg z) w := by
  obtain ⟨i, hi, hz, _⟩ := info_parts infoCh
  refine ⟨(ccells ⟨0, zsec, zsec⟩).toArray, of_decide_eq_true rfl, fun w => ?_⟩
  generalize (ccells ⟨0, zsec, zsec⟩).toArray = z at hz ⊢
  simp [zeroValue, typeInfo, hi, hz]
/-- The mask's bit for write i. -/
def bitOf (mask : Nat) (i : Nat) : Bool := mask.testBit (i % 64)
theorem bit_at (mask k : Nat) : bits .and .u64 ((mask : Int) / 2 ^ (k % 64)) 1 = if bitOf mask k then 1 else 0 := by
  have e : (mask : Int) / 2 ^ (k % 64) = ((mask / 2 ^ (k % 64) : Nat) : Int) := by
    rw [Int.natCast_ediv, Int.natCast_pow]; rfl
  have e2 : bitOf mask k = decide (mask / 2 ^ (k % 64) % 2 = 1) := Nat.testBit_eq_decide_div_mod_eq
  rw [e, e2]
  generalize mask / 2 ^ (k % 64) = q
  have h1 : bits .and .u64 (q : Int) 1 = IntKind.u64.wrap (((BitVec.ofInt 64 (q : Int) &&& BitVec.ofInt 64 1).toNat : Int)) := rfl
  have h2 : (BitVec.ofInt 64 (q : Int) &&& BitVec.ofInt 64 1).toNat = q % 2 := by
    rw [BitVec.toNat_and, BitVec.ofInt_natCast, BitVec.toNat_ofNat, show (BitVec.ofInt 64 1).toNat = 1 by decide, Nat.and_one_is_mod]
    omega
  rw [h1, h2]
  rcases Nat.mod_two_eq_zero_or_one q with h | h <;> rw [h] <;> rfl
/-- The row of regions on the way. -/
def PB (W : World) (g2 : Nat) (cs : Array Value) (w : World) : Prop := Blk w g2 55 cs ∧ Kept (fun k => k = g2) W w
/-- What a region's crash leaves. -/
def CrPost (w0 : World) (g2 o sb : Nat) (cs : Array Value) (l : List Sec) (e : Ending) (w' : World) : Prop :=
  e = .returned (.tuple #[]) ∧ Blk w' g2 55 (((cs.setIfInBounds (o + 1) (.slice none 0 0)).setIfInBounds (o + 2) (.bool false)).setIfInBounds (o + 3) (.int .i64 0)) ∧ Blk w' sb 60 (blk8 l.flatten) ∧ Kept (fun k => k = g2 ∨ k = sb) w0 w'

set_option maxRecDepth 100000 in
set_option maxHeartbeats 8000000 in
theorem crash_in (F : Fence) (n0 : Nat) (hF : F.fn 24) (hF1 : F.fn 29) (hF2 : F.fn 33) (hro : F.round = none) (hn0 : 4 ≤ n0)
    (w0 : World) (g2 o sb n mask p : Nat) (cs : Array Value) (r : Rg) (A : Option Addr) (len cap : Nat) (cl : List (FC n)) (hb2 : Blk w0 g2 55 cs) (c0 : cs[o]? = some (.slice (some ⟨sb, 0, none⟩) n n)) (c1 : cs[o + 1]? = some (.slice A len cap)) (c3 : o + 3 < cs.size)
    (hsb : Blk w0 sb 60 (blk8 r.secs.flatten)) (hfit : r.Fit n) (hcl : cl.map (·.1) = r.pend) (hlen : r.ws.length = len) (hlen2 : len ≤ 1000000000000) (hA0 : 0 < len → A = some ⟨p, 0, none⟩ ∧ p < w0.heap.size) (hps : p < w0.heap.size + 2) (hp1 : p ≠ sb) (hp2 : p ≠ g2) (hne : g2 ≠ sb)
    (hcells : ∀ (j : Nat) (h : j < cl.length), w0.rangeAt p (j * 129) (ccells cl[j].1)) :
    CallsIn F n0 Try.prog 24 #[.pointer (some ⟨g2, o, none⟩), .int .u64 (mask : Int)] w0 (CrPost w0 g2 o sb cs (r.crash (bitOf mask)).secs) := by
  have h1 : 1 ≤ n0 := by omega
  obtain ⟨zch, hzs, hzv⟩ := zero_ch
  have HZS := hide hzs
  clear hzs
  have hcl_len : cl.length = len := by have h := congrArg List.length hcl; rw [List.length_map] at h; rw [h, ← hlen]; exact chain_length r.ws r.base
  have hgl := hb2.lt
  have hsl := hsb.lt
  obtain ⟨W0, hW0⟩ : ∃ W0, W0 = (w0.alloc (.cells #[.pointer (some ⟨g2, o, none⟩)] 56)).alloc (.cells #[.slice A len cap] 53) := ⟨_, rfl⟩
  have hsz : W0.heap.size = w0.heap.size + 2 := by rw [hW0]; simp
  have hB0 : Below w0.heap.size w0 W0 := by rw [hW0]; exact ((Below.refl _ w0).alloc (Nat.le_refl _) _).alloc (by simp) _
  have bBox : Blk W0 w0.heap.size 56 #[.pointer (some ⟨g2, o, none⟩)] := by rw [hW0]; exact (Blk.new_ w0 _ _ rfl).alloc _
  have bSl : Blk W0 (w0.heap.size + 1) 53 #[.slice A len cap] := by rw [hW0]; exact Blk.new_ _ _ _ (by simp)
  have bRow := hb2.below hB0
  have bSec := hsb.below hB0
  have hc1 := (hb2.alloc (.cells #[.pointer (some ⟨g2, o, none⟩)] 56)).cell _ _ c1
  have hcellsW : ∀ (j : Nat) (h : j < cl.length), W0.rangeAt p (j * 129) (ccells cl[j].1) := fun j h i v hv => (hB0.cell (p := ⟨p, j * 129 + i, none⟩) (hA0 (by omega)).2).trans (hcells j h i v hv)
  have HW0 := hide hW0
  have HPEND := hide hcl
  have HLEN := hide hlen
  have HCLL := hide hcl_len
  have HSZ := hide hsz
  clear hsz hcl hlen hcl_len hb2 hcells
  refine callsIn_of_wp_marks Try.func24 rfl hF ?_ hro
  simp only [Try.ntmps24, List.size_toArray, List.length_cons, List.length_nil, Nat.reduceAdd, Nat.reduceSub, Array.replicate_succ, Array.replicate_zero, List.push_toArray, List.append_toArray, List.nil_append, List.cons_append]
  gi_wp2_with (gi_at_call 29; refine (back_in F (n0 - 1) hF1 hro _ _ _ _).mono ?_; rintro e w' ⟨rfl, rfl⟩)
  rw [← HW0.out]
  clear hc1 hW0
  refine wpIn_rangeFunc_ownH hro h1 (gf := 33) (lb := #[.pointer (some ⟨w0.heap.size + 1, 0, none⟩)]) rfl hF2 (enters_of Try.func33 (by kernel_rfl) rfl)
    (back_stops F (n0 - 1) hF2 hro (by omega) (w0.heap.size + 1) p len cap A cl HCLL.out (fun h => (hA0 h).1) hlen2 W0 (by rw [HSZ.out]; omega) (fun _ => by rw [HSZ.out]; exact hps) (bSl.cell 0 _ rfl) hcellsW) Same.trans (sameK_b (by rintro k (rfl | rfl) <;> rw [HSZ.out] <;> omega)) (Below.refl _ _) (fun _ => rfl)
    (fun pre W => Blk W sb 60 (blk8 (backTo r.secs pre).flatten) ∧ Kept (fun k => k = sb) W0 W)
    (fun _ _ _ => False)
    (fun s X Y row hs hg hr => ⟨(hg.block sb hs.1.lt (fun e => by have := (hr sb e.symm).1; rw [HSZ.out] at this; omega)).trans hs.1, hs.2.trans (Kept.of_grown hg) (fun k hk => .inr (hr k hk).1)⟩)
    (fun _ _ _ _ _ hs _ _ => hs)
    ⟨bSec, Kept.refl _ _⟩
    (fun x a' W => ∃ Bx, W0.heap.size ≤ Bx ∧ Blk W Bx 68 (ccells x.2.1).toArray ∧ a' = { tmps := #[.pointer (some ⟨g2, o, none⟩), .int .u64 (mask : Int), .pointer (some ⟨w0.heap.size, 0, none⟩), undef, undef, .pointer (some ⟨Bx, 0, none⟩), undef, undef, .pointer (some ⟨g2, o, none⟩), .pointer (some ⟨g2, o, none⟩), .pointer (some ⟨g2, o + 1, none⟩), .slice A len cap, .func (.func 33) #[] #[.pointer (some ⟨w0.heap.size + 1, 0, none⟩)], .int .i64 (x.1 : Int), .agg (ccells x.2.1).toArray, undef, undef, undef, undef, undef, undef, undef, undef, undef, undef, undef, undef, undef, undef, undef, undef, undef, undef, undef, undef, undef, undef, undef, undef, undef, undef, undef, undef, undef, undef, undef, undef, undef, undef, undef, undef, undef, undef, undef, undef, undef, undef, undef, undef], defers := [] })
    (fun x a' _ X Y row hs hg hr => by
      obtain ⟨Bx, hle, hbx, ha⟩ := hs
      refine ⟨Bx, hle, (hg.block Bx hbx.lt (fun e => ?_)).trans hbx, ha⟩
      obtain ⟨_, ob, hob, hoc⟩ := hr Bx e.symm
      unfold Blk at hbx
      rw [hbx] at hob
      injection hob with hob
      subst hob
      cases hoc) ?assign ?body ?done ?stop
  case stop =>
    rintro D c pre W _ _ h _
    exact h.elim
  case assign =>
    intro l pre x W K hi hK
    unfold encB
    obtain ⟨hcp, hcb, hca⟩ := x.2.2
    have XI := hide (show (Try.prog.info? 68).map (·.size) = some (ccells x.2.1).toArray.size by rw [List.size_toArray]; exact chInfo _ hcb hca)
    have XL := hide (show (ccells x.2.1).toArray.size = 129 by rw [List.size_toArray]; exact ccells_length _ hcb hca)
    gi_wp2_with ((with_reducible refine wpListIn_store_mid rfl 68 (.tmp 5) (.tmp 14) rfl W.heap.size 0 (ccells x.2.1).toArray rfl rfl ?_ ?_ ?_ ?_); exact (Blk.new_ W zch _ rfl).there (by rw [XL.out, HZS.out]; exact Nat.le_refl _); exact XI.out; exact all_oneCell_toArray (oneCell_c _))
    have hnew := new_change W zch x.2.1 HZS.out hcb hca
    refine hK _ _ ?_ ?_ ?_ ⟨W.heap.size, hi.2.size, hnew.1, rfl⟩
    · exact ⟨hnew.2.size, fun k ob _ hk _ => (hnew.2.block k (Array.getElem?_eq_some_iff.1 hk).1 (fun h => h)).trans hk⟩
    · rintro k (rfl | rfl)
      · exact hnew.2.block _ (by have := hi.2.size; rw [HSZ.out] at this; omega) (fun h => h)
      · exact hnew.2.block _ (by have := hi.2.size; rw [HSZ.out] at this; omega) (fun h => h)
    · exact ⟨hnew.2.blk hi.1 (fun h => h), hi.2.trans hnew.2 (fun _ h => h.elim)⟩
  case body =>
    rintro l pre x a' W hl ⟨lr, hlr⟩ ⟨WSec, hkept⟩ ⟨Bx, hBx, WC, rfl⟩ hlt
    obtain ⟨i0, ⟨⟨place, before, after⟩, hcp, hcb, hca⟩⟩ := x
    have hcp' : place < n := hcp
    replace hcb : before.length = 64 := hcb
    replace hca : after.length = 64 := hca
    have WBox := hkept.blk bBox (fun e => by have e' : w0.heap.size = sb := e; omega)
    have WRow := hkept.blk bRow hne
    have hfl : (backTo r.secs pre).flatten.length = 64 * n := by rw [flat_length _ (backTo_full pre _ hfit.secs_full), backTo_length, hfit.secs_length]
    have XB := hide (WBox.cell 0 _ rfl)
    have XB_lt := hide (show (⟨w0.heap.size, 0, none⟩ : Addr).block < W.heap.size from WBox.lt)
    have XS := hide (WRow.cell o _ c0)
    have XS_lt := hide (show (⟨g2, o, none⟩ : Addr).block < W.heap.size from WRow.lt)
    have XP := hide (WC.cell 0 (.int .i64 (place : Int)) rfl)
    have XP_lt := hide (show (⟨Bx, 0, none⟩ : Addr).block < W.heap.size from WC.lt)
    have XR := hide (Blk.range (o := 1) (l := u8s before) WC (ch_before ⟨place, before, after⟩))
    have XI := hide (secInfo before hcb)
    have XI2 := hide (show (Try.prog.info? 60).map (·.size) = some (u8s before).toArray.size by rw [List.size_toArray]; exact secInfo before hcb)
    have XT := hide (Blk.there (o := place * 64) (n := (u8s before).toArray.size) WSec (by rw [List.size_toArray, u8s_length, hcb, blk8_size, hfl]; omega))
    have XT_lt := hide (show sb < W.heap.size from WSec.lt)
    have hp0 : (0 : Int) ≤ (place : Int) := by omega
    have hp1 : (place : Int) < (n : Int) := by omega
    have HSec := hide WSec
    have HKept := hide hkept
    have HFL := hide hfl
    clear WSec hkept WBox WRow WC hfl
    gi_wp2
    refine region_phasesIn (ops := _) (valV [some (.pointer (some ⟨g2, o, none⟩)), some (.pointer (some ⟨g2, o, none⟩)), some (.pointer (some ⟨g2, o, none⟩)), some (.slice (some ⟨sb, 0, none⟩) n n), some (.pointer (some ⟨Bx, 0, none⟩)), some (.int .i64 (place : Int)), some (.pointer (some ⟨Bx, 1, none⟩)), some (.agg (u8s before).toArray), some (.pointer (some ⟨sb, place * 64, none⟩)), none]) (phased [⟨9, 8, fun _ w => ∃ u, Abv W u ∧ w = u.setCells sb (place * 64) (u8s before)⟩] (fun w => Abv W w)) (by kernel_rfl) (by kernel_rfl) (by kernel_rfl) (by kernel_rfl) (by kernel_rfl) (phased_ext (by kernel_rfl)) ?_ ?_ ?_
    · exact (Abv.refl _).drew
    · intro i o ho L a w2 hph hsz hLi hnot hyes old dep
      match i, ho with
      | 0, ho =>
        obtain rfl := Option.some.inj ho
        rw [if_pos (wanted_none rfl)]
        have o2 := old 2 (by kernel_rfl)
        have hA : Abv W w2 := phased_first (fun p hp => by simp only [List.mem_cons, List.not_mem_nil, or_false] at hp; rcases hp with rfl; exact hnot _ (by kernel_rfl)) hph
        have hc := (Below.cell hA (p := ⟨w0.heap.size, 0, none⟩) XB_lt.out).trans XB.out
        refine wp_yields (v := .pointer (some ⟨g2, o, none⟩)) (w' := w2) ?_ (fun u hu => Option.some.inj (Option.some.inj hu)) (phased_quiet hLi (by rfl) hph)
        clear dep old ho hsz hph hnot hyes hLi
        go_simp
      | 1, ho =>
        obtain rfl := Option.some.inj ho
        rw [if_pos (wanted_none rfl)]
        have d0 : a.tmps.getD 15 undef = .pointer (some ⟨g2, o, none⟩) := dep 0 _ _ (by kernel_rfl) rfl rfl _ rfl
        have e0 : a.tmps[15]?.getD undef = .pointer (some ⟨g2, o, none⟩) := (Array.getD_eq_getD_getElem? ..).symm.trans d0
        refine wp_yields (v := .pointer (some ⟨g2, o, none⟩)) (w' := w2) ?_ (fun u hu => Option.some.inj (Option.some.inj hu)) (phased_quiet hLi (by rfl) hph)
        clear dep old ho hsz hph hnot hyes hLi
        go_simp
      | 2, ho =>
        obtain rfl := Option.some.inj ho
        rw [if_pos (wanted_none rfl)]
        have d1 : a.tmps.getD 16 undef = .pointer (some ⟨g2, o, none⟩) := dep 1 _ _ (by kernel_rfl) rfl rfl _ rfl
        have e1 : a.tmps[16]?.getD undef = .pointer (some ⟨g2, o, none⟩) := (Array.getD_eq_getD_getElem? ..).symm.trans d1
        refine wp_yields (v := .pointer (some ⟨g2, o, none⟩)) (w' := w2) ?_ (fun u hu => Option.some.inj (Option.some.inj hu)) (phased_quiet hLi (by rfl) hph)
        clear dep old ho hsz hph hnot hyes hLi
        go_simp
      | 3, ho =>
        obtain rfl := Option.some.inj ho
        rw [if_pos (wanted_none rfl)]
        have d2 : a.tmps.getD 17 undef = .pointer (some ⟨g2, o, none⟩) := dep 2 _ _ (by kernel_rfl) rfl rfl _ rfl
        have e2 : a.tmps[17]?.getD undef = .pointer (some ⟨g2, o, none⟩) := (Array.getD_eq_getD_getElem? ..).symm.trans d2
        have hA : Abv W w2 := phased_first (fun p hp => by simp only [List.mem_cons, List.not_mem_nil, or_false] at hp; rcases hp with rfl; exact hnot _ (by kernel_rfl)) hph
        have hc := (Below.cell hA (p := ⟨g2, o, none⟩) XS_lt.out).trans XS.out
        refine wp_yields (v := .slice (some ⟨sb, 0, none⟩) n n) (w' := w2) ?_ (fun u hu => Option.some.inj (Option.some.inj hu)) (phased_quiet hLi (by rfl) hph)
        clear dep old ho hsz hph hnot hyes hLi
        go_simp
      | 4, ho =>
        obtain rfl := Option.some.inj ho
        rw [if_pos (wanted_none rfl)]
        have o5 := old 5 (by kernel_rfl)
        refine wp_yields (v := .pointer (some ⟨Bx, 0, none⟩)) (w' := w2) ?_ (fun u hu => Option.some.inj (Option.some.inj hu)) (phased_quiet hLi (by rfl) hph)
        clear dep old ho hsz hph hnot hyes hLi
        go_simp
      | 5, ho =>
        obtain rfl := Option.some.inj ho
        rw [if_pos (wanted_none rfl)]
        have d4 : a.tmps.getD 19 undef = .pointer (some ⟨Bx, 0, none⟩) := dep 4 _ _ (by kernel_rfl) rfl rfl _ rfl
        have e4 : a.tmps[19]?.getD undef = .pointer (some ⟨Bx, 0, none⟩) := (Array.getD_eq_getD_getElem? ..).symm.trans d4
        have hA : Abv W w2 := phased_first (fun p hp => by simp only [List.mem_cons, List.not_mem_nil, or_false] at hp; rcases hp with rfl; exact hnot _ (by kernel_rfl)) hph
        have hc := (Below.cell hA (p := ⟨Bx, 0, none⟩) XP_lt.out).trans XP.out
        refine wp_yields (v := .int .i64 (place : Int)) (w' := w2) ?_ (fun u hu => Option.some.inj (Option.some.inj hu)) (phased_quiet hLi (by rfl) hph)
        clear dep old ho hsz hph hnot hyes hLi
        go_simp
      | 6, ho =>
        obtain rfl := Option.some.inj ho
        rw [if_pos (wanted_none rfl)]
        have o5 := old 5 (by kernel_rfl)
        refine wp_yields (v := .pointer (some ⟨Bx, 1, none⟩)) (w' := w2) ?_ (fun u hu => Option.some.inj (Option.some.inj hu)) (phased_quiet hLi (by rfl) hph)
        clear dep old ho hsz hph hnot hyes hLi
        go_simp
      | 7, ho =>
        obtain rfl := Option.some.inj ho
        rw [if_pos (wanted_none rfl)]
        have d6 : a.tmps.getD 21 undef = .pointer (some ⟨Bx, 1, none⟩) := dep 6 _ _ (by kernel_rfl) rfl rfl _ rfl
        have e6 : a.tmps[21]?.getD undef = .pointer (some ⟨Bx, 1, none⟩) := (Array.getD_eq_getD_getElem? ..).symm.trans d6
        have hA : Abv W w2 := phased_first (fun p hp => by simp only [List.mem_cons, List.not_mem_nil, or_false] at hp; rcases hp with rfl; exact hnot _ (by kernel_rfl)) hph
        refine wp_load_mid 60 _ rfl Bx 1 d6 (u8s before) _ (range_below XR.out hA XP_lt.out) Try.underlying60 rfl XI.out ⟨_, rfl, (fun u hu => Option.some.inj (Option.some.inj hu)), phased_quiet hLi (by rfl) hph⟩
      | 8, ho =>
        obtain rfl := Option.some.inj ho
        rw [if_pos (wanted_none rfl)]
        have d3 : a.tmps.getD 18 undef = .slice (some ⟨sb, 0, none⟩) n n := dep 3 _ _ (by kernel_rfl) rfl rfl _ rfl
        have e3 : a.tmps[18]?.getD undef = .slice (some ⟨sb, 0, none⟩) n n := (Array.getD_eq_getD_getElem? ..).symm.trans d3
        have d5 : a.tmps.getD 20 undef = .int .i64 (place : Int) := dep 5 _ _ (by kernel_rfl) rfl rfl _ rfl
        have e5 : a.tmps[20]?.getD undef = .int .i64 (place : Int) := (Array.getD_eq_getD_getElem? ..).symm.trans d5
        refine wp_yields (v := .pointer (some ⟨sb, place * 64, none⟩)) (w' := w2) ?_ (fun u hu => Option.some.inj (Option.some.inj hu)) (phased_quiet hLi (by rfl) hph)
        clear dep old ho hsz hph hnot hyes hLi
        go_simp
      | 9, ho =>
        obtain rfl := Option.some.inj ho
        rw [if_pos (wanted_none rfl)]
        have d7 : a.tmps.getD 22 undef = .agg (u8s before).toArray := dep 7 _ _ (by kernel_rfl) rfl rfl _ rfl
        have e7 : a.tmps[22]?.getD undef = .agg (u8s before).toArray := (Array.getD_eq_getD_getElem? ..).symm.trans d7
        have d8 : a.tmps.getD 23 undef = .pointer (some ⟨sb, place * 64, none⟩) := dep 8 _ _ (by kernel_rfl) rfl rfl _ rfl
        have e8 : a.tmps[23]?.getD undef = .pointer (some ⟨sb, place * 64, none⟩) := (Array.getD_eq_getD_getElem? ..).symm.trans d8
        unfold phased at hph
        rw [if_neg (by rw [hLi]; decide)] at hph
        have hA : Abv W w2 := hph
        refine wp_store_mid 60 _ _ rfl sb (place * 64) (u8s before).toArray d8 d7 (there_below XT.out hA XT_lt.out) XI2.out (all_oneCell_toArray (oneCell_u8s before)) ⟨undef, rfl, (fun u hu => by cases Option.some.inj hu), ?_⟩
        unfold phased
        rw [if_pos (by simp [also])]
        exact ⟨by simp [also, hyes 8 (by kernel_rfl)], w2, hA, rfl⟩
      | i + 10, ho => exact absurd ho (by simp)
    · intro a w2 hph _ _ _ _
      unfold phased at hph
      rw [if_pos rfl] at hph
      obtain ⟨_, u, hA, rfl⟩ := hph
      have hk : Kept (fun k => k = sb) W (u.setCells sb (place * 64) (u8s before)) := (Kept.of_below hA).trans_same (Kept.setCells u sb (place * 64) (u8s before))
      gi_wp2
      refine ⟨⟨hk.size, fun k ob _ hk' hoc => (hk.block k (Array.getElem?_eq_some_iff.1 hk').1 (fun e => ?_)).trans hk'⟩, ?_, ?_, HKept.out.trans_same hk⟩
      · subst e
        have := HSec.out
        unfold Blk at this
        rw [this] at hk'
        injection hk' with hk'
        subst hk'
        cases hoc
      · rintro k (rfl | rfl)
        · exact hk.block _ (by have := HKept.out.size; rw [HSZ.out] at this; omega) (fun e => by have e' : w0.heap.size + 1 = sb := e; omega)
        · exact hk.block _ (by have := HKept.out.size; rw [HSZ.out] at this; omega) hp1
      · rw [backTo_snoc]
        exact sec_set HSec.out hA (backTo_full pre _ hfit.secs_full) (by rw [backTo_length, hfit.secs_length]; exact hcp') hcb
  case done =>
    rintro D ys W1 hD rfl ⟨hsec, hkept⟩ hK
    rw [backTo_backs, HPEND.out] at hsec
    have hbase : undo r.pend r.secs = r.base := undo_chain r.ws r.base (fun x hx => by rw [hfit.size]; exact (hfit.wfull x hx).1)
    rw [hbase] at hsec
    have WBox := hkept.blk bBox (fun e => by have e' : w0.heap.size = sb := e; omega)
    have WRow := hkept.blk bRow hne
    have hx2 := WBox.cell 0 _ rfl
    have hx3 := WRow.cell _ _ c1
    have HSec := hide hsec
    have HKept := hide hkept
    have HBox := hide WBox
    have HRow := hide WRow
    have HKD := hide hK
    clear hsec hkept WBox WRow hK hbase
    gi_wp2
    gi_loopw [29] (fun i wr => ∃ k : Nat, k ≤ len ∧ i = .int .i64 k ∧ Blk wr sb 60 (blk8 (put r.base (kept (bitOf mask) (r.ws.take k))).flatten) ∧ Kept (fun k => k = sb) W1 wr) (fun i _ => len - (intOf i).toNat)
    case atStart => exact ⟨0, Nat.zero_le _, rfl, by simpa [kept_nil, put_nil] using HSec.out, Kept.refl _ _⟩
    case round =>
      obtain ⟨k, hk, rfl, VSec, hkv⟩ := hrel
      by_cases hlt : k < len
      · have hkc : k < cl.length := by rw [HCLL.out]; exact hlt
        have hkw : k < r.ws.length := by rw [HLEN.out]; exact hlt
        obtain ⟨rfl, hpl⟩ := hA0 (by omega)
        have hget : cl[k].1.place = r.ws[k].1 ∧ cl[k].1.after = r.ws[k].2 := by
          have hpk : k < r.pend.length := by show k < (chain r.base r.ws).length; rw [chain_length]; exact hkw
          have h2 : r.pend[k] = cl[k].1 := by
            have h3 : (cl.map (·.1))[k]? = r.pend[k]? := by rw [HPEND.out]
            rw [List.getElem?_map, List.getElem?_eq_getElem hkc, List.getElem?_eq_getElem hpk] at h3
            exact (Option.some.inj h3).symm
          have h4 := chain_get r.ws r.base k hpk hkw
          rw [← h2]; exact h4
        have hrg : wr.rangeAt p (k * 129) (ccells cl[k].1) := fun j v hv => (hkv.cell (p := ⟨p, k * 129 + j, none⟩) (by have := HKept.out.size; rw [HSZ.out] at this; show p < _; omega) hp1).trans ((HKept.out.cell (p := ⟨p, k * 129 + j, none⟩) (by rw [HSZ.out]; exact hps) hp1).trans (hcellsW k hkc j v hv))
        obtain ⟨cx, hcx⟩ : ∃ cx, cl[k] = cx := ⟨_, rfl⟩
        rw [hcx] at hget hrg
        clear hcx
        obtain ⟨⟨place, before, after⟩, hcp, hcb, hca⟩ := cx
        replace hcb : before.length = 64 := hcb
        replace hca : after.length = 64 := hca
        have hcp' : place < n := hcp
        have HGET := hide (show r.ws[k] = (place, after) from Prod.ext hget.1.symm hget.2.symm)
        have HRG := hide hrg
        have XI3 := hide (show (Try.prog.info? 68).map (·.size) = some (ccells ⟨place, before, after⟩).toArray.size by rw [List.size_toArray]; exact chInfo ⟨place, before, after⟩ hcb hca)
        have XI4 := hide (chInfo ⟨place, before, after⟩ hcb hca)
        have XL := hide (show (ccells ⟨place, before, after⟩).toArray.size = 129 by rw [List.size_toArray]; exact ccells_length _ hcb hca)
        have hk0 : (0 : Int) ≤ (k : Int) := by omega
        have hk1 : (k : Int) < (len : Int) := by omega
        have htake : kept (bitOf mask) (r.ws.take (k + 1)) = kept (bitOf mask) (r.ws.take k) ++ (if bitOf mask k then [(place, after)] else []) := by
          rw [take_next _ _ hkw, kept_snoc, HGET.out, List.length_take, Nat.min_eq_left (by omega)]
        have HT := hide htake
        have hbits := bit_at mask k
        have hnew := new_change wr zch ⟨place, before, after⟩ HZS.out hcb hca
        have HNEW := hide hnew
        have HV := hide VSec
        have HKV := hide hkv
        clear hrg hget htake hnew hkv VSec
        cases hbit : bitOf mask k
        · rw [hbit] at hbits
          simp only [Bool.false_eq_true, if_false] at hbits
          have HBIT := hide hbit
          clear hbit
          gi_wp2_with (first
          | ((with_reducible refine wpListIn_load_mid rfl 68 (.tmp 32) rfl p (k * 129) rfl (ccells ⟨place, before, after⟩) _ ?_ Try.underlying68 ?_ ?_ ?_); exact HRG.out; rfl; exact XI4.out)
          | ((with_reducible refine wpListIn_store_mid rfl 68 (.tmp 7) (.tmp 33) rfl wr.heap.size 0 (ccells ⟨place, before, after⟩).toArray rfl rfl ?_ ?_ ?_ ?_); exact (Blk.new_ wr zch _ rfl).there (by rw [XL.out, HZS.out]; exact Nat.le_refl _); exact XI3.out; exact all_oneCell_toArray (oneCell_c _)))
          go_roundw
          case rel =>
            have e := HT.out
            rw [HBIT.out] at e
            simp only [Bool.false_eq_true, if_false, List.append_nil] at e
            exact ⟨k + 1, by omega, by go_num, by rw [e]; exact HNEW.out.2.blk HV.out (fun h => h), HKV.out.trans HNEW.out.2 (fun _ h => h.elim)⟩
          case measure => simp [intOf]; omega
        · rw [hbit] at hbits
          simp only [if_true] at hbits
          have HBIT := hide hbit
          clear hbit
          have hVSec := HNEW.out.2.blk HV.out (fun h => h)
          have hVK : Kept (fun k => k = sb) W1 _ := HKV.out.trans HNEW.out.2 (fun _ h => h.elim)
          have hVC := HNEW.out.1
          obtain ⟨V, hV⟩ : ∃ V, V = (wr.alloc (.cells zch 68)).setCells wr.heap.size 0 (ccells ⟨place, before, after⟩) := ⟨_, rfl⟩
          rw [← hV] at hVSec hVK hVC
          have VSec := hVSec
          have VC := hVC
          have VBox := hVK.blk HBox.out (fun e => by have e' : w0.heap.size = sb := e; omega)
          have VRow := hVK.blk HRow.out hne
          have hfull : ∀ s ∈ put r.base (kept (bitOf mask) (r.ws.take k)), s.length = 64 := put_all _ _ hfit.full (fun x hx => (hfit.wfull x (List.mem_of_mem_take (kept_mem _ _ x hx))).2)
          have hplen : (put r.base (kept (bitOf mask) (r.ws.take k))).length = n := (put_length _ _).trans hfit.size
          have hfl : (put r.base (kept (bitOf mask) (r.ws.take k))).flatten.length = 64 * n := by rw [flat_length _ hfull, hplen]
          have XB := hide (VBox.cell 0 _ rfl)
          have XB_lt := hide (show (⟨w0.heap.size, 0, none⟩ : Addr).block < V.heap.size from VBox.lt)
          have XS := hide (VRow.cell o _ c0)
          have XS_lt := hide (show (⟨g2, o, none⟩ : Addr).block < V.heap.size from VRow.lt)
          have XP := hide (VC.cell 0 (.int .i64 (place : Int)) rfl)
          have XP_lt := hide (show (⟨wr.heap.size, 0, none⟩ : Addr).block < V.heap.size from VC.lt)
          have XR := hide (Blk.range (o := 65) (l := u8s after) VC (ch_after ⟨place, before, after⟩ hcb))
          have XI := hide (secInfo after hca)
          have XI2 := hide (show (Try.prog.info? 60).map (·.size) = some (u8s after).toArray.size by rw [List.size_toArray]; exact secInfo after hca)
          have XT := hide (Blk.there (o := place * 64) (n := (u8s after).toArray.size) VSec (by rw [List.size_toArray, u8s_length, hca, blk8_size, hfl]; omega))
          have XT_lt := hide (show sb < V.heap.size from VSec.lt)
          have hp0 : (0 : Int) ≤ (place : Int) := by omega
          have hp1 : (place : Int) < (n : Int) := by omega
          have HVS := hide hVSec
          have HVK := hide hVK
          have HFULL := hide hfull
          have HPLEN := hide hplen
          have HVE := hide hV
          clear hVSec hVK hVC VSec VC VBox VRow hfull hplen hfl hV
          gi_wp2_with (first
          | ((with_reducible refine wpListIn_load_mid rfl 68 (.tmp 32) rfl p (k * 129) rfl (ccells ⟨place, before, after⟩) _ ?_ Try.underlying68 ?_ ?_ ?_); exact HRG.out; rfl; exact XI4.out)
          | ((with_reducible refine wpListIn_store_mid rfl 68 (.tmp 7) (.tmp 33) rfl wr.heap.size 0 (ccells ⟨place, before, after⟩).toArray rfl rfl ?_ ?_ ?_ ?_); exact (Blk.new_ wr zch _ rfl).there (by rw [XL.out, HZS.out]; exact Nat.le_refl _); exact XI3.out; exact all_oneCell_toArray (oneCell_c _)))
          rw [← HVE.out]
          refine region_phasesIn (ops := _) (valV [some (.pointer (some ⟨g2, o, none⟩)), some (.pointer (some ⟨g2, o, none⟩)), some (.pointer (some ⟨g2, o, none⟩)), some (.slice (some ⟨sb, 0, none⟩) n n), some (.pointer (some ⟨wr.heap.size, 0, none⟩)), some (.int .i64 (place : Int)), some (.pointer (some ⟨wr.heap.size, 65, none⟩)), some (.agg (u8s after).toArray), some (.pointer (some ⟨sb, place * 64, none⟩)), none]) (phased [⟨9, 8, fun _ w => ∃ u, Abv V u ∧ w = u.setCells sb (place * 64) (u8s after)⟩] (fun w => Abv V w)) (by kernel_rfl) (by kernel_rfl) (by kernel_rfl) (by kernel_rfl) (by kernel_rfl) (phased_ext (by kernel_rfl)) ?_ ?_ ?_
          · exact (Abv.refl _).drew
          · intro i o ho L a w2 hph hsz hLi hnot hyes old dep
            match i, ho with
            | 0, ho =>
              obtain rfl := Option.some.inj ho
              rw [if_pos (wanted_none rfl)]
              have o2 := old 2 (by kernel_rfl)
              have hA : Abv V w2 := phased_first (fun p hp => by simp only [List.mem_cons, List.not_mem_nil, or_false] at hp; rcases hp with rfl; exact hnot _ (by kernel_rfl)) hph
              have hc := (Below.cell hA (p := ⟨w0.heap.size, 0, none⟩) XB_lt.out).trans XB.out
              refine wp_yields (v := .pointer (some ⟨g2, o, none⟩)) (w' := w2) ?_ (fun u hu => Option.some.inj (Option.some.inj hu)) (phased_quiet hLi (by rfl) hph)
              clear dep old ho hsz hph hnot hyes hLi
              go_simp
            | 1, ho =>
              obtain rfl := Option.some.inj ho
              rw [if_pos (wanted_none rfl)]
              have d0 : a.tmps.getD 40 undef = .pointer (some ⟨g2, o, none⟩) := dep 0 _ _ (by kernel_rfl) rfl rfl _ rfl
              have e0 : a.tmps[40]?.getD undef = .pointer (some ⟨g2, o, none⟩) := (Array.getD_eq_getD_getElem? ..).symm.trans d0
              refine wp_yields (v := .pointer (some ⟨g2, o, none⟩)) (w' := w2) ?_ (fun u hu => Option.some.inj (Option.some.inj hu)) (phased_quiet hLi (by rfl) hph)
              clear dep old ho hsz hph hnot hyes hLi
              go_simp
            | 2, ho =>
              obtain rfl := Option.some.inj ho
              rw [if_pos (wanted_none rfl)]
              have d1 : a.tmps.getD 41 undef = .pointer (some ⟨g2, o, none⟩) := dep 1 _ _ (by kernel_rfl) rfl rfl _ rfl
              have e1 : a.tmps[41]?.getD undef = .pointer (some ⟨g2, o, none⟩) := (Array.getD_eq_getD_getElem? ..).symm.trans d1
              refine wp_yields (v := .pointer (some ⟨g2, o, none⟩)) (w' := w2) ?_ (fun u hu => Option.some.inj (Option.some.inj hu)) (phased_quiet hLi (by rfl) hph)
              clear dep old ho hsz hph hnot hyes hLi
              go_simp
            | 3, ho =>
              obtain rfl := Option.some.inj ho
              rw [if_pos (wanted_none rfl)]
              have d2 : a.tmps.getD 42 undef = .pointer (some ⟨g2, o, none⟩) := dep 2 _ _ (by kernel_rfl) rfl rfl _ rfl
              have e2 : a.tmps[42]?.getD undef = .pointer (some ⟨g2, o, none⟩) := (Array.getD_eq_getD_getElem? ..).symm.trans d2
              have hA : Abv V w2 := phased_first (fun p hp => by simp only [List.mem_cons, List.not_mem_nil, or_false] at hp; rcases hp with rfl; exact hnot _ (by kernel_rfl)) hph
              have hc := (Below.cell hA (p := ⟨g2, o, none⟩) XS_lt.out).trans XS.out
              refine wp_yields (v := .slice (some ⟨sb, 0, none⟩) n n) (w' := w2) ?_ (fun u hu => Option.some.inj (Option.some.inj hu)) (phased_quiet hLi (by rfl) hph)
              clear dep old ho hsz hph hnot hyes hLi
              go_simp
            | 4, ho =>
              obtain rfl := Option.some.inj ho
              rw [if_pos (wanted_none rfl)]
              have o7 := old 7 (by kernel_rfl)
              refine wp_yields (v := .pointer (some ⟨wr.heap.size, 0, none⟩)) (w' := w2) ?_ (fun u hu => Option.some.inj (Option.some.inj hu)) (phased_quiet hLi (by rfl) hph)
              clear dep old ho hsz hph hnot hyes hLi
              go_simp
            | 5, ho =>
              obtain rfl := Option.some.inj ho
              rw [if_pos (wanted_none rfl)]
              have d4 : a.tmps.getD 44 undef = .pointer (some ⟨wr.heap.size, 0, none⟩) := dep 4 _ _ (by kernel_rfl) rfl rfl _ rfl
              have e4 : a.tmps[44]?.getD undef = .pointer (some ⟨wr.heap.size, 0, none⟩) := (Array.getD_eq_getD_getElem? ..).symm.trans d4
              have hA : Abv V w2 := phased_first (fun p hp => by simp only [List.mem_cons, List.not_mem_nil, or_false] at hp; rcases hp with rfl; exact hnot _ (by kernel_rfl)) hph
              have hc := (Below.cell hA (p := ⟨wr.heap.size, 0, none⟩) XP_lt.out).trans XP.out
              refine wp_yields (v := .int .i64 (place : Int)) (w' := w2) ?_ (fun u hu => Option.some.inj (Option.some.inj hu)) (phased_quiet hLi (by rfl) hph)
              clear dep old ho hsz hph hnot hyes hLi
              go_simp
            | 6, ho =>
              obtain rfl := Option.some.inj ho
              rw [if_pos (wanted_none rfl)]
              have o7 := old 7 (by kernel_rfl)
              refine wp_yields (v := .pointer (some ⟨wr.heap.size, 65, none⟩)) (w' := w2) ?_ (fun u hu => Option.some.inj (Option.some.inj hu)) (phased_quiet hLi (by rfl) hph)
              clear dep old ho hsz hph hnot hyes hLi
              go_simp
            | 7, ho =>
              obtain rfl := Option.some.inj ho
              rw [if_pos (wanted_none rfl)]
              have d6 : a.tmps.getD 46 undef = .pointer (some ⟨wr.heap.size, 65, none⟩) := dep 6 _ _ (by kernel_rfl) rfl rfl _ rfl
              have e6 : a.tmps[46]?.getD undef = .pointer (some ⟨wr.heap.size, 65, none⟩) := (Array.getD_eq_getD_getElem? ..).symm.trans d6
              have hA : Abv V w2 := phased_first (fun p hp => by simp only [List.mem_cons, List.not_mem_nil, or_false] at hp; rcases hp with rfl; exact hnot _ (by kernel_rfl)) hph
              refine wp_load_mid 60 _ rfl wr.heap.size 65 d6 (u8s after) _ (range_below XR.out hA XP_lt.out) Try.underlying60 rfl XI.out ⟨_, rfl, (fun u hu => Option.some.inj (Option.some.inj hu)), phased_quiet hLi (by rfl) hph⟩
            | 8, ho =>
              obtain rfl := Option.some.inj ho
              rw [if_pos (wanted_none rfl)]
              have d3 : a.tmps.getD 43 undef = .slice (some ⟨sb, 0, none⟩) n n := dep 3 _ _ (by kernel_rfl) rfl rfl _ rfl
              have e3 : a.tmps[43]?.getD undef = .slice (some ⟨sb, 0, none⟩) n n := (Array.getD_eq_getD_getElem? ..).symm.trans d3
              have d5 : a.tmps.getD 45 undef = .int .i64 (place : Int) := dep 5 _ _ (by kernel_rfl) rfl rfl _ rfl
              have e5 : a.tmps[45]?.getD undef = .int .i64 (place : Int) := (Array.getD_eq_getD_getElem? ..).symm.trans d5
              refine wp_yields (v := .pointer (some ⟨sb, place * 64, none⟩)) (w' := w2) ?_ (fun u hu => Option.some.inj (Option.some.inj hu)) (phased_quiet hLi (by rfl) hph)
              clear dep old ho hsz hph hnot hyes hLi
              go_simp
            | 9, ho =>
              obtain rfl := Option.some.inj ho
              rw [if_pos (wanted_none rfl)]
              have d7 : a.tmps.getD 47 undef = .agg (u8s after).toArray := dep 7 _ _ (by kernel_rfl) rfl rfl _ rfl
              have e7 : a.tmps[47]?.getD undef = .agg (u8s after).toArray := (Array.getD_eq_getD_getElem? ..).symm.trans d7
              have d8 : a.tmps.getD 48 undef = .pointer (some ⟨sb, place * 64, none⟩) := dep 8 _ _ (by kernel_rfl) rfl rfl _ rfl
              have e8 : a.tmps[48]?.getD undef = .pointer (some ⟨sb, place * 64, none⟩) := (Array.getD_eq_getD_getElem? ..).symm.trans d8
              unfold phased at hph
              rw [if_neg (by rw [hLi]; decide)] at hph
              have hA : Abv V w2 := hph
              refine wp_store_mid 60 _ _ rfl sb (place * 64) (u8s after).toArray d8 d7 (there_below XT.out hA XT_lt.out) XI2.out (all_oneCell_toArray (oneCell_u8s after)) ⟨undef, rfl, (fun u hu => by cases Option.some.inj hu), ?_⟩
              unfold phased
              rw [if_pos (by simp [also])]
              exact ⟨by simp [also, hyes 8 (by kernel_rfl)], w2, hA, rfl⟩
            | i + 10, ho => exact absurd ho (by simp)
          · intro a w2 hph hsz hdf fin keep
            unfold phased at hph
            rw [if_pos rfl] at hph
            obtain ⟨_, u, hA, hw⟩ := hph
            obtain ⟨tm, df⟩ := a
            have hx : tm = #[tm.getD 0 undef, tm.getD 1 undef, tm.getD 2 undef, tm.getD 3 undef, tm.getD 4 undef, tm.getD 5 undef, tm.getD 6 undef, tm.getD 7 undef, tm.getD 8 undef, tm.getD 9 undef, tm.getD 10 undef, tm.getD 11 undef, tm.getD 12 undef, tm.getD 13 undef, tm.getD 14 undef, tm.getD 15 undef, tm.getD 16 undef, tm.getD 17 undef, tm.getD 18 undef, tm.getD 19 undef, tm.getD 20 undef, tm.getD 21 undef, tm.getD 22 undef, tm.getD 23 undef, tm.getD 24 undef, tm.getD 25 undef, tm.getD 26 undef, tm.getD 27 undef, tm.getD 28 undef, tm.getD 29 undef, tm.getD 30 undef, tm.getD 31 undef, tm.getD 32 undef, tm.getD 33 undef, tm.getD 34 undef, tm.getD 35 undef, tm.getD 36 undef, tm.getD 37 undef, tm.getD 38 undef, tm.getD 39 undef, tm.getD 40 undef, tm.getD 41 undef, tm.getD 42 undef, tm.getD 43 undef, tm.getD 44 undef, tm.getD 45 undef, tm.getD 46 undef, tm.getD 47 undef, tm.getD 48 undef, tm.getD 49 undef, tm.getD 50 undef, tm.getD 51 undef, tm.getD 52 undef, tm.getD 53 undef, tm.getD 54 undef, tm.getD 55 undef, tm.getD 56 undef, tm.getD 57 undef, tm.getD 58 undef] := slots_of tm 59 hsz
            generalize tm.getD 40 undef = x40 at hx
            generalize tm.getD 41 undef = x41 at hx
            generalize tm.getD 42 undef = x42 at hx
            generalize tm.getD 43 undef = x43 at hx
            generalize tm.getD 44 undef = x44 at hx
            generalize tm.getD 45 undef = x45 at hx
            generalize tm.getD 46 undef = x46 at hx
            generalize tm.getD 47 undef = x47 at hx
            generalize tm.getD 48 undef = x48 at hx
            rw [show tm.getD 0 undef = _ from keep 0 (by kernel_rfl)] at hx
            rw [show tm.getD 1 undef = _ from keep 1 (by kernel_rfl)] at hx
            rw [show tm.getD 2 undef = _ from keep 2 (by kernel_rfl)] at hx
            rw [show tm.getD 3 undef = _ from keep 3 (by kernel_rfl)] at hx
            rw [show tm.getD 4 undef = _ from keep 4 (by kernel_rfl)] at hx
            rw [show tm.getD 5 undef = _ from keep 5 (by kernel_rfl)] at hx
            rw [show tm.getD 6 undef = _ from keep 6 (by kernel_rfl)] at hx
            rw [show tm.getD 7 undef = _ from keep 7 (by kernel_rfl)] at hx
            rw [show tm.getD 8 undef = _ from keep 8 (by kernel_rfl)] at hx
            rw [show tm.getD 9 undef = _ from keep 9 (by kernel_rfl)] at hx
            rw [show tm.getD 10 undef = _ from keep 10 (by kernel_rfl)] at hx
            rw [show tm.getD 11 undef = _ from keep 11 (by kernel_rfl)] at hx
            rw [show tm.getD 12 undef = _ from keep 12 (by kernel_rfl)] at hx
            rw [show tm.getD 13 undef = _ from keep 13 (by kernel_rfl)] at hx
            rw [show tm.getD 14 undef = _ from keep 14 (by kernel_rfl)] at hx
            rw [show tm.getD 15 undef = _ from keep 15 (by kernel_rfl)] at hx
            rw [show tm.getD 16 undef = _ from keep 16 (by kernel_rfl)] at hx
            rw [show tm.getD 17 undef = _ from keep 17 (by kernel_rfl)] at hx
            rw [show tm.getD 18 undef = _ from keep 18 (by kernel_rfl)] at hx
            rw [show tm.getD 19 undef = _ from keep 19 (by kernel_rfl)] at hx
            rw [show tm.getD 20 undef = _ from keep 20 (by kernel_rfl)] at hx
            rw [show tm.getD 21 undef = _ from keep 21 (by kernel_rfl)] at hx
            rw [show tm.getD 22 undef = _ from keep 22 (by kernel_rfl)] at hx
            rw [show tm.getD 23 undef = _ from keep 23 (by kernel_rfl)] at hx
            rw [show tm.getD 24 undef = _ from keep 24 (by kernel_rfl)] at hx
            rw [show tm.getD 25 undef = _ from keep 25 (by kernel_rfl)] at hx
            rw [show tm.getD 26 undef = _ from keep 26 (by kernel_rfl)] at hx
            rw [show tm.getD 27 undef = _ from keep 27 (by kernel_rfl)] at hx
            rw [show tm.getD 28 undef = _ from keep 28 (by kernel_rfl)] at hx
            rw [show tm.getD 29 undef = _ from keep 29 (by kernel_rfl)] at hx
            rw [show tm.getD 30 undef = _ from keep 30 (by kernel_rfl)] at hx
            rw [show tm.getD 31 undef = _ from keep 31 (by kernel_rfl)] at hx
            rw [show tm.getD 32 undef = _ from keep 32 (by kernel_rfl)] at hx
            rw [show tm.getD 33 undef = _ from keep 33 (by kernel_rfl)] at hx
            rw [show tm.getD 34 undef = _ from keep 34 (by kernel_rfl)] at hx
            rw [show tm.getD 35 undef = _ from keep 35 (by kernel_rfl)] at hx
            rw [show tm.getD 36 undef = _ from keep 36 (by kernel_rfl)] at hx
            rw [show tm.getD 37 undef = _ from keep 37 (by kernel_rfl)] at hx
            rw [show tm.getD 38 undef = _ from keep 38 (by kernel_rfl)] at hx
            rw [show tm.getD 39 undef = _ from keep 39 (by kernel_rfl)] at hx
            rw [show tm.getD 49 undef = _ from keep 49 (by kernel_rfl)] at hx
            rw [show tm.getD 50 undef = _ from keep 50 (by kernel_rfl)] at hx
            rw [show tm.getD 51 undef = _ from keep 51 (by kernel_rfl)] at hx
            rw [show tm.getD 52 undef = _ from keep 52 (by kernel_rfl)] at hx
            rw [show tm.getD 53 undef = _ from keep 53 (by kernel_rfl)] at hx
            rw [show tm.getD 54 undef = _ from keep 54 (by kernel_rfl)] at hx
            rw [show tm.getD 55 undef = _ from keep 55 (by kernel_rfl)] at hx
            rw [show tm.getD 56 undef = _ from keep 56 (by kernel_rfl)] at hx
            rw [show tm.getD 57 undef = _ from keep 57 (by kernel_rfl)] at hx
            rw [show tm.getD 58 undef = _ from keep 58 (by kernel_rfl)] at hx
            simp only [Array.getD_eq_getD_getElem?, List.getElem?_toArray, List.getElem?_cons_succ, List.getElem?_cons_zero, Option.getD_some] at hx
            dsimp only at hdf
            clear fin keep hsz
            subst hx hdf
            have HW := hide hw
            clear hw
            gi_wp2
            go_roundw
            case rel =>
              have e := HT.out
              rw [HBIT.out] at e
              simp only [if_true] at e
              refine ⟨k + 1, by omega, by go_num, ?_, ?_⟩
              · rw [e, put_snoc, HW.out]
                exact sec_set HVS.out hA HFULL.out (by rw [HPLEN.out]; exact hcp') hca
              · rw [HW.out]
                exact HVK.out.trans_same ((Kept.of_below hA).trans_same (Kept.setCells u sb (place * 64) (u8s after)))
            case measure => simp [intOf]; omega
      · obtain rfl : k = len := by omega
        have VBox := (HKept.out.trans_same hkv).blk bBox (fun e => by have e' : w0.heap.size = sb := e; omega)
        have VRow := (HKept.out.trans_same hkv).blk bRow hne
        have hKD := HKD.out
        have hKr : wr.heap[D]? = some (.deferred (some [])) := (hkv.block D (Array.getElem?_eq_some_iff.1 hKD).1 (fun e => by have e' : D = sb := e; rw [HSZ.out] at hD; omega)).trans hKD
        have XB := hide (VBox.cell 0 _ rfl)
        have XB_lt := hide VBox.lt
        have HV := hide VSec
        have HVR := hide VRow
        have HKV := hide hkv
        have HKR := hide hKr
        have hDs := Nat.lt_of_lt_of_le (Array.getElem?_eq_some_iff.1 hKD).1 hkv.size
        clear VBox VRow hKD hKr VSec hkv
        gi_wp2
        refine region_phasesIn (ops := _) (valV [some (.pointer (some ⟨g2, o, none⟩)), some (.pointer (some ⟨g2, o, none⟩)), some (.pointer (some ⟨g2, o, none⟩)), some (.pointer (some ⟨g2, o, none⟩)), some (.pointer (some ⟨g2, o + 1, none⟩)), none, some (.pointer (some ⟨g2, o, none⟩)), some (.pointer (some ⟨g2, o + 2, none⟩)), none, some (.pointer (some ⟨g2, o, none⟩)), some (.pointer (some ⟨g2, o + 3, none⟩)), none]) (phased [⟨11, 10, fun _ => PB wr g2 (((cs.setIfInBounds (o + 1) (.slice none 0 0)).setIfInBounds (o + 2) (.bool false)).setIfInBounds (o + 3) (.int .i64 0))⟩, ⟨8, 7, fun _ => PB wr g2 ((cs.setIfInBounds (o + 1) (.slice none 0 0)).setIfInBounds (o + 2) (.bool false))⟩, ⟨5, 4, fun _ => PB wr g2 (cs.setIfInBounds (o + 1) (.slice none 0 0))⟩] (PB wr g2 cs)) (by kernel_rfl) (by kernel_rfl) (by kernel_rfl) (by kernel_rfl) (by kernel_rfl) (phased_ext (by kernel_rfl)) ?_ ?_ ?_
        · exact ⟨HVR.out.drew, (Kept.refl _ _).drew⟩
        · intro i o ho L a w2 hph hsz hLi hnot hyes old dep
          match i, ho with
          | 0, ho =>
            obtain rfl := Option.some.inj ho
            rw [if_pos (wanted_none rfl)]
            have o2 := old 2 (by kernel_rfl)
            have hkk := phased_all (R := fun w => Kept (fun k => k = g2) wr w) (fun q hq v w h => by simp only [List.mem_cons, List.not_mem_nil, or_false] at hq; rcases hq with rfl | rfl | rfl <;> exact h.2) (fun w h => h.2) hph
            have hc := (hkk.cell (p := ⟨w0.heap.size, 0, none⟩) XB_lt.out (by show ¬ w0.heap.size = g2; omega)).trans XB.out
            refine wp_yields (v := .pointer (some ⟨g2, o, none⟩)) (w' := w2) ?_ (fun u hu => Option.some.inj (Option.some.inj hu)) (phased_quiet hLi (by rfl) hph)
            clear dep old ho hsz hph hnot hyes hLi
            go_simp
          | 1, ho =>
            obtain rfl := Option.some.inj ho
            rw [if_pos (wanted_none rfl)]
            have o2 := old 2 (by kernel_rfl)
            have hkk := phased_all (R := fun w => Kept (fun k => k = g2) wr w) (fun q hq v w h => by simp only [List.mem_cons, List.not_mem_nil, or_false] at hq; rcases hq with rfl | rfl | rfl <;> exact h.2) (fun w h => h.2) hph
            have hc := (hkk.cell (p := ⟨w0.heap.size, 0, none⟩) XB_lt.out (by show ¬ w0.heap.size = g2; omega)).trans XB.out
            refine wp_yields (v := .pointer (some ⟨g2, o, none⟩)) (w' := w2) ?_ (fun u hu => Option.some.inj (Option.some.inj hu)) (phased_quiet hLi (by rfl) hph)
            clear dep old ho hsz hph hnot hyes hLi
            go_simp
          | 2, ho =>
            obtain rfl := Option.some.inj ho
            rw [if_pos (wanted_none rfl)]
            have o2 := old 2 (by kernel_rfl)
            have hkk := phased_all (R := fun w => Kept (fun k => k = g2) wr w) (fun q hq v w h => by simp only [List.mem_cons, List.not_mem_nil, or_false] at hq; rcases hq with rfl | rfl | rfl <;> exact h.2) (fun w h => h.2) hph
            have hc := (hkk.cell (p := ⟨w0.heap.size, 0, none⟩) XB_lt.out (by show ¬ w0.heap.size = g2; omega)).trans XB.out
            refine wp_yields (v := .pointer (some ⟨g2, o, none⟩)) (w' := w2) ?_ (fun u hu => Option.some.inj (Option.some.inj hu)) (phased_quiet hLi (by rfl) hph)
            clear dep old ho hsz hph hnot hyes hLi
            go_simp
          | 3, ho =>
            obtain rfl := Option.some.inj ho
            rw [if_pos (wanted_none rfl)]
            have d0 : a.tmps.getD 50 undef = .pointer (some ⟨g2, o, none⟩) := dep 0 _ _ (by kernel_rfl) rfl rfl _ rfl
            have e0 : a.tmps[50]?.getD undef = .pointer (some ⟨g2, o, none⟩) := (Array.getD_eq_getD_getElem? ..).symm.trans d0
            refine wp_yields (v := .pointer (some ⟨g2, o, none⟩)) (w' := w2) ?_ (fun u hu => Option.some.inj (Option.some.inj hu)) (phased_quiet hLi (by rfl) hph)
            clear dep old ho hsz hph hnot hyes hLi
            go_simp
          | 4, ho =>
            obtain rfl := Option.some.inj ho
            rw [if_pos (wanted_none rfl)]
            have d3 : a.tmps.getD 53 undef = .pointer (some ⟨g2, o, none⟩) := dep 3 _ _ (by kernel_rfl) rfl rfl _ rfl
            have e3 : a.tmps[53]?.getD undef = .pointer (some ⟨g2, o, none⟩) := (Array.getD_eq_getD_getElem? ..).symm.trans d3
            refine wp_yields (v := .pointer (some ⟨g2, o + 1, none⟩)) (w' := w2) ?_ (fun u hu => Option.some.inj (Option.some.inj hu)) (phased_quiet hLi (by rfl) hph)
            clear dep old ho hsz hph hnot hyes hLi
            go_simp
          | 5, ho =>
            obtain rfl := Option.some.inj ho
            rw [if_pos (wanted_none rfl)]
            have d4 : a.tmps.getD 54 undef = .pointer (some ⟨g2, o + 1, none⟩) := dep 4 _ _ (by kernel_rfl) rfl rfl _ rfl
            have e4 : a.tmps[54]?.getD undef = .pointer (some ⟨g2, o + 1, none⟩) := (Array.getD_eq_getD_getElem? ..).symm.trans d4
            have hB : PB wr g2 cs w2 := by
              unfold phased phased phased phased at hph
              rw [if_neg (by rw [hnot 11 (by kernel_rfl)]; decide), if_neg (by rw [hnot 8 (by kernel_rfl)]; decide), if_neg (by rw [hLi]; decide)] at hph
              exact hph
            have hc := hB.1.cell (o + 1) _ (Array.getElem?_eq_getElem (by first | omega | (simp; omega)))
            have hf := hB.1.frozen (o + 1)
            refine wp_skips (w' := w2.setCell ⟨g2, o + 1, none⟩ (.slice none 0 0)) ?_ (fun u hu => by cases Option.some.inj hu) ?_
            · generalize cs[o + 1]'(_) = cold at hc
              clear dep old ho hsz hph hnot hyes hLi hB
              go_simp
            · unfold phased phased phased
              rw [if_neg (by simp [also, hnot 11 (by kernel_rfl)]), if_neg (by simp [also, hnot 8 (by kernel_rfl)]), if_pos (by simp [also])]
              exact ⟨by simp [also, hyes 4 (by kernel_rfl)], hB.1.set_ _ _, hB.2.trans_same (Kept.setCell w2 ⟨g2, o + 1, none⟩ _)⟩
          | 6, ho =>
            obtain rfl := Option.some.inj ho
            rw [if_pos (wanted_none rfl)]
            have d1 : a.tmps.getD 51 undef = .pointer (some ⟨g2, o, none⟩) := dep 1 _ _ (by kernel_rfl) rfl rfl _ rfl
            have e1 : a.tmps[51]?.getD undef = .pointer (some ⟨g2, o, none⟩) := (Array.getD_eq_getD_getElem? ..).symm.trans d1
            refine wp_yields (v := .pointer (some ⟨g2, o, none⟩)) (w' := w2) ?_ (fun u hu => Option.some.inj (Option.some.inj hu)) (phased_quiet hLi (by rfl) hph)
            clear dep old ho hsz hph hnot hyes hLi
            go_simp
          | 7, ho =>
            obtain rfl := Option.some.inj ho
            rw [if_pos (wanted_none rfl)]
            have d6 : a.tmps.getD 55 undef = .pointer (some ⟨g2, o, none⟩) := dep 6 _ _ (by kernel_rfl) rfl rfl _ rfl
            have e6 : a.tmps[55]?.getD undef = .pointer (some ⟨g2, o, none⟩) := (Array.getD_eq_getD_getElem? ..).symm.trans d6
            refine wp_yields (v := .pointer (some ⟨g2, o + 2, none⟩)) (w' := w2) ?_ (fun u hu => Option.some.inj (Option.some.inj hu)) (phased_quiet hLi (by rfl) hph)
            clear dep old ho hsz hph hnot hyes hLi
            go_simp
          | 8, ho =>
            obtain rfl := Option.some.inj ho
            rw [if_pos (wanted_none rfl)]
            have d7 : a.tmps.getD 56 undef = .pointer (some ⟨g2, o + 2, none⟩) := dep 7 _ _ (by kernel_rfl) rfl rfl _ rfl
            have e7 : a.tmps[56]?.getD undef = .pointer (some ⟨g2, o + 2, none⟩) := (Array.getD_eq_getD_getElem? ..).symm.trans d7
            have hB : PB wr g2 (cs.setIfInBounds (o + 1) (.slice none 0 0)) w2 := by
              unfold phased phased phased phased at hph
              rw [if_neg (by rw [hnot 11 (by kernel_rfl)]; decide), if_neg (by rw [hLi]; decide), if_pos (hyes 5 (by kernel_rfl))] at hph
              exact hph.2
            have hc := hB.1.cell (o + 2) _ (Array.getElem?_eq_getElem (by first | omega | (simp; omega)))
            have hf := hB.1.frozen (o + 2)
            refine wp_skips (w' := w2.setCell ⟨g2, o + 2, none⟩ (.bool false)) ?_ (fun u hu => by cases Option.some.inj hu) ?_
            · generalize (cs.setIfInBounds (o + 1) (.slice none 0 0))[o + 2]'(_) = cold at hc
              clear dep old ho hsz hph hnot hyes hLi hB
              go_simp
            · unfold phased phased phased
              rw [if_neg (by simp [also, hnot 11 (by kernel_rfl)]), if_pos (by simp [also])]
              exact ⟨by simp [also, hyes 7 (by kernel_rfl)], hB.1.set_ _ _, hB.2.trans_same (Kept.setCell w2 ⟨g2, o + 2, none⟩ _)⟩
          | 9, ho =>
            obtain rfl := Option.some.inj ho
            rw [if_pos (wanted_none rfl)]
            have d2 : a.tmps.getD 52 undef = .pointer (some ⟨g2, o, none⟩) := dep 2 _ _ (by kernel_rfl) rfl rfl _ rfl
            have e2 : a.tmps[52]?.getD undef = .pointer (some ⟨g2, o, none⟩) := (Array.getD_eq_getD_getElem? ..).symm.trans d2
            refine wp_yields (v := .pointer (some ⟨g2, o, none⟩)) (w' := w2) ?_ (fun u hu => Option.some.inj (Option.some.inj hu)) (phased_quiet hLi (by rfl) hph)
            clear dep old ho hsz hph hnot hyes hLi
            go_simp
          | 10, ho =>
            obtain rfl := Option.some.inj ho
            rw [if_pos (wanted_none rfl)]
            have d9 : a.tmps.getD 57 undef = .pointer (some ⟨g2, o, none⟩) := dep 9 _ _ (by kernel_rfl) rfl rfl _ rfl
            have e9 : a.tmps[57]?.getD undef = .pointer (some ⟨g2, o, none⟩) := (Array.getD_eq_getD_getElem? ..).symm.trans d9
            refine wp_yields (v := .pointer (some ⟨g2, o + 3, none⟩)) (w' := w2) ?_ (fun u hu => Option.some.inj (Option.some.inj hu)) (phased_quiet hLi (by rfl) hph)
            clear dep old ho hsz hph hnot hyes hLi
            go_simp
          | 11, ho =>
            obtain rfl := Option.some.inj ho
            rw [if_pos (wanted_none rfl)]
            have d10 : a.tmps.getD 58 undef = .pointer (some ⟨g2, o + 3, none⟩) := dep 10 _ _ (by kernel_rfl) rfl rfl _ rfl
            have e10 : a.tmps[58]?.getD undef = .pointer (some ⟨g2, o + 3, none⟩) := (Array.getD_eq_getD_getElem? ..).symm.trans d10
            have hB : PB wr g2 ((cs.setIfInBounds (o + 1) (.slice none 0 0)).setIfInBounds (o + 2) (.bool false)) w2 := by
              unfold phased phased phased phased at hph
              rw [if_neg (by rw [hLi]; decide), if_pos (hyes 8 (by kernel_rfl))] at hph
              exact hph.2
            have hc := hB.1.cell (o + 3) _ (Array.getElem?_eq_getElem (by first | omega | (simp; omega)))
            have hf := hB.1.frozen (o + 3)
            refine wp_skips (w' := w2.setCell ⟨g2, o + 3, none⟩ (.int .i64 0)) ?_ (fun u hu => by cases Option.some.inj hu) ?_
            · generalize ((cs.setIfInBounds (o + 1) (.slice none 0 0)).setIfInBounds (o + 2) (.bool false))[o + 3]'(_) = cold at hc
              clear dep old ho hsz hph hnot hyes hLi hB
              go_simp
            · unfold phased phased phased
              rw [if_pos (by simp [also])]
              exact ⟨by simp [also, hyes 10 (by kernel_rfl)], hB.1.set_ _ _, hB.2.trans_same (Kept.setCell w2 ⟨g2, o + 3, none⟩ _)⟩
          | i + 12, ho => exact absurd ho (by simp)
        · intro a w2 hph hsz hdf fin keep
          unfold phased at hph
          rw [if_pos rfl] at hph
          have hB : PB wr g2 (((cs.setIfInBounds (o + 1) (.slice none 0 0)).setIfInBounds (o + 2) (.bool false)).setIfInBounds (o + 3) (.int .i64 0)) w2 := hph.2
          clear hph
          obtain ⟨tm, df⟩ := a
          have hx : tm = #[tm.getD 0 undef, tm.getD 1 undef, tm.getD 2 undef, tm.getD 3 undef, tm.getD 4 undef, tm.getD 5 undef, tm.getD 6 undef, tm.getD 7 undef, tm.getD 8 undef, tm.getD 9 undef, tm.getD 10 undef, tm.getD 11 undef, tm.getD 12 undef, tm.getD 13 undef, tm.getD 14 undef, tm.getD 15 undef, tm.getD 16 undef, tm.getD 17 undef, tm.getD 18 undef, tm.getD 19 undef, tm.getD 20 undef, tm.getD 21 undef, tm.getD 22 undef, tm.getD 23 undef, tm.getD 24 undef, tm.getD 25 undef, tm.getD 26 undef, tm.getD 27 undef, tm.getD 28 undef, tm.getD 29 undef, tm.getD 30 undef, tm.getD 31 undef, tm.getD 32 undef, tm.getD 33 undef, tm.getD 34 undef, tm.getD 35 undef, tm.getD 36 undef, tm.getD 37 undef, tm.getD 38 undef, tm.getD 39 undef, tm.getD 40 undef, tm.getD 41 undef, tm.getD 42 undef, tm.getD 43 undef, tm.getD 44 undef, tm.getD 45 undef, tm.getD 46 undef, tm.getD 47 undef, tm.getD 48 undef, tm.getD 49 undef, tm.getD 50 undef, tm.getD 51 undef, tm.getD 52 undef, tm.getD 53 undef, tm.getD 54 undef, tm.getD 55 undef, tm.getD 56 undef, tm.getD 57 undef, tm.getD 58 undef] := slots_of tm 59 hsz
          generalize tm.getD 50 undef = y50 at hx
          generalize tm.getD 51 undef = y51 at hx
          generalize tm.getD 52 undef = y52 at hx
          generalize tm.getD 53 undef = y53 at hx
          generalize tm.getD 54 undef = y54 at hx
          generalize tm.getD 55 undef = y55 at hx
          generalize tm.getD 56 undef = y56 at hx
          generalize tm.getD 57 undef = y57 at hx
          generalize tm.getD 58 undef = y58 at hx
          rw [show tm.getD 0 undef = _ from keep 0 (by kernel_rfl)] at hx
          rw [show tm.getD 1 undef = _ from keep 1 (by kernel_rfl)] at hx
          rw [show tm.getD 2 undef = _ from keep 2 (by kernel_rfl)] at hx
          rw [show tm.getD 3 undef = _ from keep 3 (by kernel_rfl)] at hx
          rw [show tm.getD 4 undef = _ from keep 4 (by kernel_rfl)] at hx
          rw [show tm.getD 5 undef = _ from keep 5 (by kernel_rfl)] at hx
          rw [show tm.getD 6 undef = _ from keep 6 (by kernel_rfl)] at hx
          rw [show tm.getD 7 undef = _ from keep 7 (by kernel_rfl)] at hx
          rw [show tm.getD 8 undef = _ from keep 8 (by kernel_rfl)] at hx
          rw [show tm.getD 9 undef = _ from keep 9 (by kernel_rfl)] at hx
          rw [show tm.getD 10 undef = _ from keep 10 (by kernel_rfl)] at hx
          rw [show tm.getD 11 undef = _ from keep 11 (by kernel_rfl)] at hx
          rw [show tm.getD 12 undef = _ from keep 12 (by kernel_rfl)] at hx
          rw [show tm.getD 13 undef = _ from keep 13 (by kernel_rfl)] at hx
          rw [show tm.getD 14 undef = _ from keep 14 (by kernel_rfl)] at hx
          rw [show tm.getD 15 undef = _ from keep 15 (by kernel_rfl)] at hx
          rw [show tm.getD 16 undef = _ from keep 16 (by kernel_rfl)] at hx
          rw [show tm.getD 17 undef = _ from keep 17 (by kernel_rfl)] at hx
          rw [show tm.getD 18 undef = _ from keep 18 (by kernel_rfl)] at hx
          rw [show tm.getD 19 undef = _ from keep 19 (by kernel_rfl)] at hx
          rw [show tm.getD 20 undef = _ from keep 20 (by kernel_rfl)] at hx
          rw [show tm.getD 21 undef = _ from keep 21 (by kernel_rfl)] at hx
          rw [show tm.getD 22 undef = _ from keep 22 (by kernel_rfl)] at hx
          rw [show tm.getD 23 undef = _ from keep 23 (by kernel_rfl)] at hx
          rw [show tm.getD 24 undef = _ from keep 24 (by kernel_rfl)] at hx
          rw [show tm.getD 25 undef = _ from keep 25 (by kernel_rfl)] at hx
          rw [show tm.getD 26 undef = _ from keep 26 (by kernel_rfl)] at hx
          rw [show tm.getD 27 undef = _ from keep 27 (by kernel_rfl)] at hx
          rw [show tm.getD 28 undef = _ from keep 28 (by kernel_rfl)] at hx
          rw [show tm.getD 29 undef = _ from keep 29 (by kernel_rfl)] at hx
          rw [show tm.getD 30 undef = _ from keep 30 (by kernel_rfl)] at hx
          rw [show tm.getD 31 undef = _ from keep 31 (by kernel_rfl)] at hx
          rw [show tm.getD 32 undef = _ from keep 32 (by kernel_rfl)] at hx
          rw [show tm.getD 33 undef = _ from keep 33 (by kernel_rfl)] at hx
          rw [show tm.getD 34 undef = _ from keep 34 (by kernel_rfl)] at hx
          rw [show tm.getD 35 undef = _ from keep 35 (by kernel_rfl)] at hx
          rw [show tm.getD 36 undef = _ from keep 36 (by kernel_rfl)] at hx
          rw [show tm.getD 37 undef = _ from keep 37 (by kernel_rfl)] at hx
          rw [show tm.getD 38 undef = _ from keep 38 (by kernel_rfl)] at hx
          rw [show tm.getD 39 undef = _ from keep 39 (by kernel_rfl)] at hx
          rw [show tm.getD 40 undef = _ from keep 40 (by kernel_rfl)] at hx
          rw [show tm.getD 41 undef = _ from keep 41 (by kernel_rfl)] at hx
          rw [show tm.getD 42 undef = _ from keep 42 (by kernel_rfl)] at hx
          rw [show tm.getD 43 undef = _ from keep 43 (by kernel_rfl)] at hx
          rw [show tm.getD 44 undef = _ from keep 44 (by kernel_rfl)] at hx
          rw [show tm.getD 45 undef = _ from keep 45 (by kernel_rfl)] at hx
          rw [show tm.getD 46 undef = _ from keep 46 (by kernel_rfl)] at hx
          rw [show tm.getD 47 undef = _ from keep 47 (by kernel_rfl)] at hx
          rw [show tm.getD 48 undef = _ from keep 48 (by kernel_rfl)] at hx
          rw [show tm.getD 49 undef = _ from keep 49 (by kernel_rfl)] at hx
          simp only [Array.getD_eq_getD_getElem?, List.getElem?_toArray, List.getElem?_cons_succ, List.getElem?_cons_zero, Option.getD_some] at hx
          dsimp only at hdf
          clear fin keep hsz
          subst hx hdf
          have HB := hide hB
          clear hB
          gi_wp2
          have hD0 : w0.heap.size + 2 ≤ D := by rw [← HSZ.out]; exact hD
          have hKD2 : w2.heap[D]? = some (.deferred (some [])) := (HB.out.2.block D hDs (fun e => by have e' : D = g2 := e; omega)).trans HKR.out
          have hput : Kept (fun k => k = D) w2 (w2.putObj D (.deferred none)) := by
            have hg := grownBy_putObj' w2 D (.deferred none)
            exact ⟨hg.os, hg.tape, hg.output, hg.size, fun k hk hne => hg.block k hk (fun e => hne (by injection e))⟩
          refine ⟨by simp, .inl ⟨_, _, rfl, run_takeDeferred hKD2, ?_⟩⟩
          have hsecs : (r.crash (bitOf mask)).secs = put r.base (kept (bitOf mask) (r.ws.take k)) := by
            rw [List.take_of_length_le (by rw [HLEN.out]; exact Nat.le_refl _)]; rfl
          refine ⟨_, results_none rfl _ _ _, rfl, hput.blk HB.out.1 (by omega), ?_, ?_⟩
          · rw [hsecs]
            exact hput.blk (HB.out.2.blk HV.out (fun e => hne e.symm)) (by omega)
          · have k1 : Kept (fun k => k = g2 ∨ k = sb) w0 W1 := (Kept.of_below hB0).trans HKept.out (fun i hi => .inl (.inr hi))
            have k2 := k1.trans HKV.out (fun i hi => .inl (.inr hi))
            have k3 := k2.trans HB.out.2 (fun i hi => .inl (.inl hi))
            exact k3.trans hput (fun i hi => .inr (by rw [show i = D from hi]; omega))

/-- A region's crash, plainly. -/
theorem crash_rg (w0 : World) (g2 o sb n mask : Nat) (cs : Array Value) (r : Rg) (pv : Value) (hb2 : Blk w0 g2 55 cs) (c0 : cs[o]? = some (.slice (some ⟨sb, 0, none⟩) n n)) (c1 : cs[o + 1]? = some pv) (c3 : o + 3 < cs.size)
    (hsb : Blk w0 sb 60 (blk8 r.secs.flatten)) (hfit : r.Fit n) (hown : w0.ownsRow 0 68 129 pv r.ws.length (pcells r.pend)) (hlen2 : r.ws.length ≤ 1000000000000) (np : ∀ k, pv.ownBlock = some k → k ≠ g2 ∧ k ≠ sb) (hne : g2 ≠ sb) :
    Calls Try.prog 24 #[.pointer (some ⟨g2, o, none⟩), .int .u64 (mask : Int)] w0 (CrPost w0 g2 o sb cs (r.crash (bitOf mask)).secs) := by
  have hgl := hb2.lt
  have hsl := hsb.lt
  have hall : ∀ c ∈ r.pend, c.place < n ∧ c.before.length = 64 ∧ c.after.length = 64 := by
    intro c hc
    obtain ⟨k, hk, rfl⟩ := List.getElem_of_mem hc
    have hkw : k < r.ws.length := by have := hk; rw [show r.pend = chain r.base r.ws from rfl, chain_length] at this; exact this
    have h1 := chain_get r.ws r.base k hk hkw
    have h2 := chain_before r.ws r.base hfit.full (fun x hx => (hfit.wfull x hx).2) _ hc
    refine ⟨?_, h2⟩
    rw [show r.pend[k].place = r.ws[k].1 from h1.1]
    exact (hfit.wfull _ (List.getElem_mem hkw)).1
  obtain ⟨cl, hcl⟩ : ∃ cl : List (FC n), cl.map (·.1) = r.pend := ⟨r.pend.attach.map fun c => ⟨c.1, hall c.1 c.2⟩, by simp [List.map_map, Function.comp_def]⟩
  have hpl : r.pend.length = r.ws.length := chain_length _ _
  have hfull : ∀ c ∈ r.pend, c.before.length = 64 ∧ c.after.length = 64 := fun c hc => (hall c hc).2
  have hget : ∀ (j : Nat) (h : j < cl.length) (i : Nat) (v : Value), (ccells cl[j].1)[i]? = some v → (pcells r.pend)[j * 129 + i]? = some v := by
    intro j h i v hv
    have hj : j < r.pend.length := by rw [← hcl, List.length_map]; exact h
    have e : r.pend[j] = cl[j].1 := by
      have h3 : (cl.map (·.1))[j]? = r.pend[j]? := by rw [hcl]
      rw [List.getElem?_map, List.getElem?_eq_getElem h, List.getElem?_eq_getElem hj] at h3
      exact (Option.some.inj h3).symm
    have hi : i < 129 := by
      have := (List.getElem?_eq_some_iff.1 hv).1
      rwa [ccells_length _ cl[j].2.2.1 cl[j].2.2.2] at this
    rw [pcells_get r.pend hfull j i hj hi, e]; exact hv
  refine (callsIn_wide (n := 4)).1 ?_
  rcases hown.2 with ⟨rfl, hz⟩ | ⟨g, cap, cur, rfl, _, hg, hnc, hcm, hcs, htake⟩
  · have hcz : cl.length = 0 := by rw [← List.length_map (f := fun x => x.1), hcl, hpl]; exact hz
    have := crash_in Fence.wide 4 trivial trivial trivial rfl (Nat.le_refl _) w0 g2 o sb n mask (w0.heap.size + 1) cs r none 0 0 cl hb2 c0 c1 c3 hsb hfit hcl hz (by omega) (fun h => absurd h (by omega)) (by omega) (by omega) (by omega) hne (fun j h => absurd h (by omega))
    exact this
  · have hgl2 := Blk.lt hg
    have hgn := np g rfl
    refine crash_in Fence.wide 4 trivial trivial trivial rfl (Nat.le_refl _) w0 g2 o sb n mask g cs r (some ⟨g, 0, none⟩) r.ws.length cap cl hb2 c0 c1 c3 hsb hfit hcl rfl hlen2 (fun _ => ⟨rfl, hgl2⟩) (by omega) hgn.2 hgn.1 hne (fun j h i v hv => ?_)
    have h5 := hget j h i v hv
    rw [← htake, List.getElem?_take] at h5
    split at h5
    · exact Blk.cell hg (j * 129 + i) v (by simpa using h5)
    · cases h5
end
section
/- Contract: a disk's Read. -/
open Go.RowKit
set_option maxRecDepth 20000

/-- What Read tells: a sector, if there is one. -/
def Ds.rd? (d : Ds) (r s : Int) : Option Sec :=
  match d.at? r with
  | none => none
  | some g => if s < 0 ∨ (d.size : Int) ≤ s then none else g.secs[s.toNat]?
theorem read_nil (r s : Int) (w : World) : Calls Try.prog 14 #[.pointer none, .int .i64 r, .int .i64 s] w fun e w' => e = .returned (.tuple #[.slice none 0 0, .int .i64 1]) ∧ w = w' := by
  go_enter Try.func14, Try.ntmps14
  go_wp2_with (first
    | (go_at_call 17; refine (region_nil r _).mono ?_; rintro e w1 ⟨rfl, rfl⟩)
    | (go_at_call 18; refine (has_nil s _).mono ?_; rintro e w1 ⟨rfl, rfl⟩))
  go_ret2
  exact ⟨rfl, rfl⟩
theorem read_bad {w : World} {lab : Nat → Nat} {g : Nat} {d : Ds} (h : DkAt w lab g d) (r s : Int) (hn : d.rd? r s = none) : Calls Try.prog 14 #[ptr g, .int .i64 r, .int .i64 s] w fun e w' => e = .returned (.tuple #[.slice none 0 0, .int .i64 1]) ∧ w = w' := by
  obtain ⟨_, _, _, g2, cs, _, hb, hb2, hcs, hall⟩ := id h
  unfold Ds.rd? at hn
  cases hr : d.at? r with
  | none =>
    have hout := out_of hr
    clear hn
    go_enter Try.func14, Try.ntmps14
    go_wp2_with (first
      | (go_at_call 17; refine (region_out hb r hout).mono ?_; rintro e w1 ⟨rfl, rfl⟩)
      | (go_at_call 18; refine (has_nil s _).mono ?_; rintro e w1 ⟨rfl, rfl⟩))
    go_ret2
    exact ⟨rfl, rfl⟩
  | some rg =>
    obtain ⟨i, rfl, hi, hri⟩ := at_some hr
    obtain ⟨sb, pv, c0, _, _, _, _, _, _, _, hfit⟩ := hall i rg hri
    have hs : s < 0 ∨ (d.size : Int) ≤ s := by
      rw [hr] at hn
      simp only at hn
      split at hn
      · assumption
      · rename_i hs
        rw [List.getElem?_eq_none_iff, hfit.secs_length] at hn
        omega
    have hc := hb2.cell _ _ c0
    clear hn hall hfit
    go_enter Try.func14, Try.ntmps14
    go_wp2_with (first
      | (go_at_call 17; refine (region_some hb i hi).mono ?_; rintro e w1 ⟨rfl, rfl⟩)
      | (go_at_call 18; refine (has_no hc s hs).mono ?_; rintro e w1 ⟨rfl, rfl⟩))
    go_ret2
    exact ⟨rfl, rfl⟩
theorem splice_whole (cs : List Value) (h : cs.length = 64) : splice (u8s zsec) 0 cs = cs := by
  unfold splice
  rw [List.take_zero, List.nil_append, List.drop_eq_nil_of_le (by rw [u8s_length, Nat.zero_add, h]; exact Nat.le_refl 64), List.append_nil]
theorem read_ok {w : World} {lab : Nat → Nat} {g : Nat} {d : Ds} (h : DkAt w lab g d) (r s : Int) {b : Sec} (hn : d.rd? r s = some b) :
    Calls Try.prog 14 #[ptr g, .int .i64 r, .int .i64 s] w fun e w' => e = .returned (.tuple #[.slice (some ⟨w.heap.size, 0, none⟩) 64 64, .int .i64 0]) ∧ b.length = 64 ∧ Blk w' w.heap.size 5 (blk8 b) ∧ Below w.heap.size w w' := by
  obtain ⟨_, _, _, g2, cs, _, hb, hb2, hcs, hall⟩ := id h
  unfold Ds.rd? at hn
  cases hr : d.at? r with
  | none => rw [hr] at hn; cases hn
  | some rg =>
    obtain ⟨i, rfl, hi, hri⟩ := at_some hr
    obtain ⟨sb, pv, c0, _, _, _, _, hsb, _, _, hfit⟩ := hall i rg hri
    rw [hr] at hn
    simp only at hn
    split at hn
    · cases hn
    rename_i hs
    obtain ⟨k, rfl⟩ : ∃ k : Nat, s = (k : Int) := ⟨s.toNat, by omega⟩
    have hk : k < d.size := by omega
    have hkl : k < rg.secs.length := by rw [hfit.secs_length]; exact hk
    have hbk : rg.secs[k] = b := by
      rw [Int.toNat_natCast, List.getElem?_eq_getElem hkl] at hn
      exact Option.some.inj hn
    have h64 : b.length = 64 := by rw [← hbk]; exact hfit.secs_full _ (List.getElem_mem hkl)
    have hc := hb2.cell _ _ c0
    have hsl := hsb.lt
    have hgl := hb2.lt
    have hcA := (hb2.alloc (.cells (blk8 zsec) 5)).cell _ _ c0
    have hsrc : ∀ j v, (u8s b)[j]? = some v → (w.alloc (.cells (blk8 zsec) 5)).cell? (Addr.add ⟨sb, k * 64, none⟩ j) = some v := by
      intro j v hj
      rw [addr_add]
      have hj64 : j < 64 := by
        have := (List.getElem?_eq_some_iff.1 hj).1
        rw [u8s_length, h64] at this; exact this
      refine (hsb.alloc _).cell (k * 64 + j) v ?_
      rw [← hj]
      unfold blk8
      rw [List.getElem?_toArray]
      simp only [u8s, List.getElem?_map]
      rw [flat_get rg.secs hfit.secs_full k j hkl hj64, hbk]
    have HS := hide hsrc
    have H64 := hide h64
    have hmk := fun w => run_make8 (P := Try.prog) 31 5 Try.underlying31 info8 64 (by omega) w
    have hmk2 : ∀ w, (Instr.makeSlice 31 (.int .i64 64) (.int .i64 64)).run Try.prog w = .ok (.slice (some ⟨w.heap.size, 0, none⟩) 64 64) (w.alloc (.cells (blk8 zsec) 5)) := hmk
    have hk0 : (0 : Int) ≤ (k : Int) := by omega
    have hk1 : (k : Int) < (d.size : Int) := by omega
    clear hn hall hfit hs hmk hsrc h64 hbk hkl
    unfold ptr
    go_enter Try.func14, Try.ntmps14
    go_wp2_with (first
      | (go_at_call 17; refine (region_some hb i hi).mono ?_; rintro e w1 ⟨rfl, rfl⟩)
      | (go_at_call 18; refine (has_yes hc k hk).mono ?_; rintro e w1 ⟨rfl, rfl⟩)
      | ((with_reducible refine wpList_copy_splice rfl (.tmp 18) (.tmp 25) 31 31 rfl 5 Try.underlying31 (by kernel_rfl) (some ⟨w.heap.size, 0, none⟩) (some ⟨sb, k * 64, none⟩) 64 64 64 64 rfl rfl w.heap.size 0 (u8s zsec) 5 ?_ (u8s b) ?_ ?_ ?_ (oneCell_u8s b) w.heap.size w ?_ (Nat.le_refl _) ?_); exact Blk.new_ w (u8s zsec).toArray _ rfl; (rw [u8s_length, H64.out]; rfl); exact (fun _ => ⟨rfl, _, rfl, HS.out⟩); (rw [u8s_length, u8s_length, H64.out]; exact Nat.le_refl 64); exact (Below.refl _ w).alloc (Nat.le_refl _) _; intro w2 HG2 hB2; have HB2 := hide hB2; have HG3 := hide (show Blk w2 w.heap.size 5 (blk8 b) by have := HG2.out; rw [splice_whole _ (by rw [u8s_length, H64.out])] at this; exact this); clear HG2 hB2))
    go_ret2
    exact ⟨rfl, H64.out, HG3.out, HB2.out⟩
end
section
/- Contract: a disk's Crash. -/
open Go.RowKit
set_option maxRecDepth 20000

/-- The first k regions behind a crash. -/
def Ds.some_ (d : Ds) (m : Nat → Bool) (k : Nat) : Ds := ⟨d.size, (d.regs.take k).map (Rg.crash m) ++ d.regs.drop k, d.writes⟩
theorem some_zero (d : Ds) (m : Nat → Bool) : d.some_ m 0 = d := by simp [Ds.some_]
theorem some_all (d : Ds) (m : Nat → Bool) : d.some_ m d.regs.length = d.crash m := by simp [Ds.some_, Ds.crash]
theorem some_length (d : Ds) (m : Nat → Bool) (k : Nat) : (d.some_ m k).regs.length = d.regs.length := by simp [Ds.some_]; omega
theorem some_get (d : Ds) (m : Nat → Bool) (k : Nat) (hk : k < d.regs.length) : (d.some_ m k).regs[k]? = some d.regs[k] := by
  unfold Ds.some_
  simp only
  rw [List.getElem?_append_right (by simp; omega)]
  simp only [List.length_map, List.length_take, Nat.min_eq_left (Nat.le_of_lt hk), Nat.sub_self, List.getElem?_drop, Nat.add_zero]
  exact List.getElem?_eq_getElem hk
theorem some_next (d : Ds) (m : Nat → Bool) (k : Nat) (hk : k < d.regs.length) : (⟨(d.some_ m k).size, (d.some_ m k).regs.set k (d.regs[k].crash m), (d.some_ m k).writes⟩ : Ds) = d.some_ m (k + 1) := by
  unfold Ds.some_
  simp only [Ds.mk.injEq, true_and, and_true]
  have hl : ((d.regs.take k).map (Rg.crash m)).length = k := by simp; omega
  rw [List.set_append_right _ _ (by omega), hl, Nat.sub_self, List.drop_eq_getElem_cons hk, List.set_cons_zero, List.take_succ_eq_append_getElem hk, List.map_append, List.append_assoc]
  rfl
theorem crash_nil (x : Int) (w : World) : Calls Try.prog 12 #[.pointer none, .int .u64 x] w fun e w' => e = .returned (.tuple #[]) ∧ w = w' := by
  go_enter Try.func12, Try.ntmps12
  go_wp2
  refine bodyPost_ret (results_none rfl _ _ _) rfl ?_
  exact ⟨rfl, rfl⟩

theorem crash_one {w : World} {lab : Nat → Nat} {g : Nat} {d : Ds} (h : DkAt w lab g d) (i mask : Nat) (hi : i < d.regs.length) (hm : d.regs[i].ws.length ≤ 1000000000000) {g2 : Nat} (hb0 : w.cell? ⟨g, 0, none⟩ = some (.slice (some ⟨g2, 0, none⟩) d.regs.length d.regs.length)) :
    Calls Try.prog 24 #[.pointer (some ⟨g2, i * 4, none⟩), .int .u64 (mask : Int)] w fun e w' => e = .returned (.tuple #[]) ∧ Hid (DkAt w' lab g ⟨d.size, d.regs.set i (d.regs[i].crash (bitOf mask)), d.writes⟩ ∧ DkStep w w' lab lab) ∧ w'.cell? ⟨g, 0, none⟩ = some (.slice (some ⟨g2, 0, none⟩) d.regs.length d.regs.length) := by
  obtain ⟨hl, hg, hz, g2', cs, hg2, hb, hb2, hcs, hall⟩ := id h
  have hri : d.regs[i]? = some d.regs[i] := List.getElem?_eq_getElem hi
  have e2 : g2' = g2 := by
    have := hb.cell 0 _ rfl
    rw [hb0] at this
    injection this with this
    injection this with this _ _
    injection this with this
    injection this with this _ _
    exact this.symm
  subst e2
  obtain ⟨sb, pv, c0, c1, c2, c3, hlsb, hsb, hown, hpl, hfit⟩ := id (hall i _ hri)
  have ne2 : g2' ≠ sb := fun e => by rw [e, hlsb] at hg2; omega
  have np2 : ∀ k, pv.ownBlock = some k → k ≠ g2' ∧ k ≠ sb := fun k hk => ⟨fun e => by have := hpl k hk; rw [e, hg2] at this; omega, fun e => by have := hpl k hk; rw [e, hlsb] at this; omega⟩
  have hlt : i * 4 + 3 < cs.size := (Array.getElem?_eq_some_iff.1 c3).1
  refine (crash_rg w g2' (i * 4) sb d.size mask cs d.regs[i] pv hb2 c0 c1 hlt hsb hfit hown hm np2 ne2).mono ?_
  rintro e w' ⟨rfl, hrow, hsec, hk⟩
  refine ⟨rfl, ?_, ?_⟩
  · refine dk_turned (r' := d.regs[i].crash (bitOf mask)) h hri hg2 hb hcs hall hk (fun k hc => ?_) hrow (by simp) (fun p hp => by rw [Array.getElem?_setIfInBounds, if_neg (by omega), Array.getElem?_setIfInBounds, if_neg (by omega), Array.getElem?_setIfInBounds, if_neg (by omega)])
      ⟨sb, .slice none 0 0, ?_, ?_, ?_, ?_, hlsb, hsec, ⟨rfl, .inl ⟨rfl, rfl⟩⟩, (fun _ h => by cases h), hfit.crash _⟩
    · rcases hc with rfl | rfl
      · exact .inl hg2
      · exact .inr (.inl hlsb)
    · rw [Array.getElem?_setIfInBounds, if_neg (by omega), Array.getElem?_setIfInBounds, if_neg (by omega), Array.getElem?_setIfInBounds, if_neg (by omega)]; exact c0
    · rw [Array.getElem?_setIfInBounds, if_neg (by omega), Array.getElem?_setIfInBounds, if_neg (by omega), Array.getElem?_setIfInBounds, if_pos rfl, if_pos (by omega)]
    · rw [Array.getElem?_setIfInBounds, if_neg (by omega), Array.getElem?_setIfInBounds, if_pos rfl, if_pos (by simp; omega)]; rfl
    · rw [Array.getElem?_setIfInBounds, if_pos rfl, if_pos (by simp; omega)]; rfl
  · exact (hk.cell (p := ⟨g, 0, none⟩) hb.lt (by rintro (e | e); rw [show g = g2' from e, hg2] at hg; cases hg; rw [show g = sb from e, hlsb] at hg; omega)).trans hb0

set_option maxHeartbeats 1000000 in
theorem crash_any {w : World} {lab : Nat → Nat} {g : Nat} {d : Ds} (h : DkAt w lab g d) (mask : Nat) (hm : ∀ r ∈ d.regs, r.ws.length ≤ 1000000000000) :
    Calls Try.prog 12 #[ptr g, .int .u64 (mask : Int)] w (fun e w' => e = .returned (.tuple #[]) ∧ DkAt w' lab g (d.crash (bitOf mask)) ∧ DkStep w w' lab lab) := by
  obtain ⟨_, _, hz, g2, cs, hg2, hb, _⟩ := id h
  have hc0 := hb.cell 0 _ rfl
  have hn64 : d.regs.length ≤ 64 := hz.2.2.2
  have HC := hide hc0
  have HD := hide h
  have HM := hide hm
  clear hb h hm
  unfold ptr
  go_enter Try.func12, Try.ntmps12
  go_wp2
  clear hc0
  go_loopw [12] (fun i wr => ∃ k : Nat, k ≤ d.regs.length ∧ i = .int .i64 k ∧ DkAt wr lab g (d.some_ (bitOf mask) k) ∧ DkStep w wr lab lab ∧ wr.cell? ⟨g, 0, none⟩ = some (.slice (some ⟨g2, 0, none⟩) d.regs.length d.regs.length)) (fun i _ => d.regs.length - (intOf i).toNat)
  case atStart => exact ⟨0, Nat.zero_le _, rfl, by rw [some_zero]; exact HD.out, DkStep.refl _ _, HC.out⟩
  case round =>
    obtain ⟨k, hk, rfl, hd, hst, hc⟩ := hrel
    by_cases hlt : k < d.regs.length
    · have hget := some_get d (bitOf mask) k hlt
      have hkl : k < (d.some_ (bitOf mask) k).regs.length := by rw [some_length]; exact hlt
      have hge : (d.some_ (bitOf mask) k).regs[k] = d.regs[k] := by
        rw [List.getElem?_eq_getElem hkl] at hget
        exact Option.some.inj hget
      have hcc := crash_one hd k mask hkl (by rw [hge]; exact HM.out _ (List.getElem_mem hlt)) (by rw [some_length]; exact hc)
      rw [hge, some_next d (bitOf mask) k hlt, some_length] at hcc
      have hk0 : (0 : Int) ≤ (k : Int) := by omega
      have hk1 : (k : Int) < (d.regs.length : Int) := by omega
      have HST := hide hst
      clear hget hge hd hst
      go_wp2_with (go_at_call 24; refine hcc.mono ?_; rintro e w1 ⟨rfl, hd1, hc1⟩)
      go_round
      case rel =>
        refine ⟨k + 1, by omega, by go_num, hd1.out.1, ⟨HST.out.1.trans hd1.out.2.1 (fun i hi => .inl hi), fun i hi => .inl hi⟩, hc1⟩
      case measure => simp [intOf]; omega
    · obtain rfl : k = d.regs.length := by omega
      rw [some_all] at hd
      go_wp2
      go_end0
      exact ⟨rfl, hd, hst⟩
end
section
/- Several disks at once, and blocks that are none of theirs. -/
open Go.RowKit
set_option maxRecDepth 20000

/-- Disks, each with blocks of its own; none of those of X. -/
def Many (w : World) (X : Nat → Prop) (l : List (Nat × Ds)) : Prop :=
  (∀ k, X k → k < w.heap.size) ∧ ∃ labs : Nat → Nat → Nat, (∀ i x, l[i]? = some x → DkAt w (labs i) x.1 x.2) ∧ (∀ i k, l.length ≤ i → labs i k = 0) ∧ (∀ i k, labs i k ≠ 0 → ¬ X k) ∧ ∀ i j k, labs i k ≠ 0 → labs j k ≠ 0 → i = j
/-- Blocks of X are as they were. -/
def Out (X : Nat → Prop) (w w' : World) : Prop := Kept (fun k => ¬ X k) w w'
theorem Out.refl (X : Nat → Prop) (w : World) : Out X w w := Kept.refl _ _
theorem Out.trans {X : Nat → Prop} {a b c : World} (h : Out X a b) (k : Out X b c) : Out X a c := Kept.trans_same h k
theorem Out.below {X : Nat → Prop} {a b : World} {B : Nat} (h : Out X a b) (hB : B ≤ a.heap.size) (hX : ∀ k, k < B → X k) : Below B a b := Kept.below h hB (fun k hk => by
  rcases Nat.lt_or_ge k B with h1 | h1
  · exact absurd (hX k h1) hk
  · exact h1)
theorem Out.of_below {X : Nat → Prop} {a b : World} (h : Below a.heap.size a b) : Out X a b := Kept.of_below h
theorem Out.blk {X : Nat → Prop} {a b : World} (h : Out X a b) {g : Nat} {t : TypeId} {cs : Array Value} (hb : Blk a g t cs) (hx : X g) : Blk b g t cs := Kept.blk h hb (fun hn => hn hx)
theorem Out.row {X : Nat → Prop} {a b : World} (h : Out X a b) {B : Nat} {v : Value} {xs : List Value} (hr : Row a B v xs) (hB : B ≤ a.heap.size) (hX : ∀ k, k < B → X k) : Row b B v xs := Kept.row h hr hB (fun k hk hn => hn (hX k hk))

theorem Many.nil {w : World} {X : Nat → Prop} (hX : ∀ k, X k → k < w.heap.size) : Many w X [] := ⟨hX, fun _ _ => 0, fun _ _ h => by simp at h, fun _ _ _ => rfl, fun _ _ h => absurd rfl h, fun _ _ _ h => absurd rfl h⟩
theorem Many.below {w w' : World} {X : Nat → Prop} {l : List (Nat × Ds)} (h : Many w X l) (hb : Below w.heap.size w w') : Many w' X l := by
  obtain ⟨hX, labs, h1, h2, h3, h4⟩ := h
  exact ⟨fun k hk => Nat.lt_of_lt_of_le (hX k hk) hb.size, labs, fun i x hi => (h1 i x hi).below hb, h2, h3, h4⟩
theorem Many.alloc {w : World} {X : Nat → Prop} {l : List (Nat × Ds)} (h : Many w X l) (o : Obj) : Many (w.alloc o) X l := h.below ((Below.refl _ w).alloc (Nat.le_refl _) o)
theorem Many.drew {w : World} {X : Nat → Prop} {l : List (Nat × Ds)} (h : Many w X l) : Many w.drew X l := h.below (Below.refl _ w).drew
theorem labs_lt {w : World} {l : List (Nat × Ds)} {i k : Nat} (labs : Nat → Nat → Nat) (h1 : ∀ i x, l[i]? = some x → DkAt w (labs i) x.1 x.2) (h2 : ∀ i k, l.length ≤ i → labs i k = 0) (hk : labs i k ≠ 0) : k < w.heap.size := by
  rcases Nat.lt_or_ge i l.length with hi | hi
  · exact (h1 i _ (List.getElem?_eq_getElem hi)).1 k hk
  · exact absurd (h2 i k hi) hk
/-- Blocks that were made since, by nobody of the disks, may be told apart too. -/
theorem Many.more {w w' : World} {X Y : Nat → Prop} {l : List (Nat × Ds)} (h : Many w X l) (hb : Below w.heap.size w w') (hY : ∀ k, Y k → X k ∨ (w.heap.size ≤ k ∧ k < w'.heap.size)) : Many w' Y l := by
  obtain ⟨hX, labs, h1, h2, h3, h4⟩ := id h
  refine ⟨fun k hk => ?_, labs, fun i x hi => (h1 i x hi).below hb, h2, fun i k hk hy => ?_, h4⟩
  · rcases hY k hk with h5 | h5
    · exact Nat.lt_of_lt_of_le (hX k h5) hb.size
    · exact h5.2
  · rcases hY k hy with h5 | h5
    · exact h3 i k hk h5
    · have := labs_lt labs h1 h2 hk; omega
/-- A block of X is written. -/
theorem Many.foreign {w w' : World} {X S : Nat → Prop} {l : List (Nat × Ds)} (h : Many w X l) (hk : Kept S w w') (hS : ∀ k, S k → X k ∨ w.heap.size ≤ k) : Many w' X l := by
  obtain ⟨hX, labs, h1, h2, h3, h4⟩ := id h
  refine ⟨fun k hx => Nat.lt_of_lt_of_le (hX k hx) hk.size, labs, fun i x hi => (h1 i x hi).keep (S := fun k => S k ∧ k < w.heap.size) ⟨hk.os, hk.tape, hk.output, hk.size, fun k hlt hn => hk.block k hlt (fun hs => hn ⟨hs, hlt⟩)⟩ (fun k hs => ?_), h2, h3, h4⟩
  by_cases hz : labs i k = 0
  · exact hz
  · rcases hS k hs.1 with hx | hx
    · exact absurd hx (h3 i k hz)
    · exact absurd hs.2 (by omega)
theorem Many.step {w w' : World} {X : Nat → Prop} {l : List (Nat × Ds)} {i g : Nat} {d d' : Ds} {lab' : Nat → Nat} (hX : ∀ k, X k → k < w.heap.size) (labs : Nat → Nat → Nat) (h1 : ∀ i x, l[i]? = some x → DkAt w (labs i) x.1 x.2) (h2 : ∀ i k, l.length ≤ i → labs i k = 0)
    (h3 : ∀ i k, labs i k ≠ 0 → ¬ X k) (h4 : ∀ i j k, labs i k ≠ 0 → labs j k ≠ 0 → i = j) (hi : l[i]? = some (g, d)) (hd : DkAt w' lab' g d') (hs : DkStep w w' (labs i) lab') : Many w' X (l.set i (g, d')) ∧ Out X w w' := by
  have hlt : ∀ j k, labs j k ≠ 0 → k < w.heap.size := by
    intro j k hk
    rcases Nat.lt_or_ge j l.length with hj | hj
    · exact (h1 j _ (List.getElem?_eq_getElem hj)).1 k hk
    · exact absurd (h2 j k hj) hk
  have hil : i < l.length := (List.getElem?_eq_some_iff.1 hi).1
  refine ⟨⟨fun k hk => Nat.lt_of_lt_of_le (hX k hk) hs.1.size, fun j => if j = i then lab' else labs j, fun j x hj => ?_, fun j k hj => ?_, fun j k hk hx => ?_, fun j j' k hk hk' => ?_⟩, hs.1.mono (fun k hk => .inl (h3 i k hk))⟩
  · rw [List.getElem?_set] at hj
    by_cases e : i = j
    · subst e
      rw [if_pos rfl, if_pos hil] at hj
      injection hj with hj
      subst hj
      simpa using hd
    · rw [if_neg e] at hj
      simp only
      rw [if_neg (fun h => e h.symm)]
      refine (h1 j x hj).keep hs.1 (fun k hk => ?_)
      by_cases hz : labs j k = 0
      · exact hz
      · exact absurd (h4 i j k hk hz) e
  · rw [List.length_set] at hj
    simp only
    rw [if_neg (by omega)]; exact h2 j k hj
  · simp only at hk
    split at hk
    · rcases hs.2 k hk with h5 | h5
      · exact h3 i k h5 hx
      · have := hX k hx; omega
    · exact h3 j k hk hx
  · simp only at hk hk'
    by_cases e : j = i
    · by_cases e' : j' = i
      · rw [e, e']
      · rw [if_pos e] at hk
        rw [if_neg e'] at hk'
        rcases hs.2 k hk with h5 | h5
        · rw [e]; exact h4 i j' k h5 hk'
        · have := hlt j' k hk'; omega
    · rw [if_neg e] at hk
      by_cases e' : j' = i
      · rw [if_pos e'] at hk'
        rcases hs.2 k hk' with h5 | h5
        · rw [e']; exact h4 j i k hk h5
        · have := hlt j k hk; omega
      · rw [if_neg e'] at hk'
        exact h4 j j' k hk hk'
/-- What a call of one disk's leaves, of all. -/
theorem many_calls {w : World} {X : Nat → Prop} {l : List (Nat × Ds)} {i g : Nat} {d d' : Ds} {f : FuncId} {args : Array Value} {v : Value} (h : Many w X l) (hi : l[i]? = some (g, d)) (hc : ∀ lab, DkAt w lab g d → Calls Try.prog f args w (DkRet w lab g v d')) :
    Calls Try.prog f args w (fun e w' => e = .returned v ∧ Many w' X (l.set i (g, d')) ∧ Out X w w') := by
  obtain ⟨hX, labs, h1, h2, h3, h4⟩ := h
  refine (hc (labs i) (h1 i _ hi)).mono ?_
  rintro e w' ⟨rfl, lab', hd, hs⟩
  exact ⟨rfl, Many.step hX labs h1 h2 h3 h4 hi hd hs⟩
theorem many_at {w : World} {X : Nat → Prop} {l : List (Nat × Ds)} {i g : Nat} {d : Ds} (h : Many w X l) (hi : l[i]? = some (g, d)) : ∃ lab, DkAt w lab g d := by
  obtain ⟨hX, labs, h1, _⟩ := h
  exact ⟨labs i, h1 i _ hi⟩
theorem set_same {α : Type} {l : List α} {i : Nat} {x : α} (h : l[i]? = some x) : l.set i x = l := by
  obtain ⟨hi, rfl⟩ := List.getElem?_eq_some_iff.1 h
  exact List.set_getElem_self hi

/-- How much a disk holds. -/
def Small (d : Ds) (k : Nat) : Prop := d.writes ≤ k ∧ ∀ r ∈ d.regs, r.ws.length ≤ k ∧ r.left < 9223372036854775808
theorem at_mem {d : Ds} {r : Int} {g : Rg} (h : d.at? r = some g) : g ∈ d.regs := by
  obtain ⟨i, _, _, hi⟩ := at_some h
  exact List.mem_of_getElem? hi
theorem Small.more {d : Ds} {k k' : Nat} (h : Small d k) (hk : k ≤ k') : Small d k' := ⟨Nat.le_trans h.1 hk, fun r hr => ⟨Nat.le_trans (h.2 r hr).1 hk, (h.2 r hr).2⟩⟩
theorem Small.wr {d : Ds} {k : Nat} (h : Small d k) (r s : Int) (b : List UInt8) : Small (d.wr r s b) (k + 1) := by
  unfold Ds.wr
  split
  · exact h.more (by omega)
  · rename_i g hg
    split
    · exact h.more (by omega)
    · split
      · exact h.more (by omega)
      · refine ⟨by have := h.1; simp [Ds.write]; omega, fun x hx => ?_⟩
        rcases List.mem_or_eq_of_mem_set hx with h1 | rfl
        · exact ⟨by have := (h.2 x h1).1; omega, (h.2 x h1).2⟩
        · have h2 := h.2 g (at_mem hg)
          refine ⟨by simp [Rg.write]; omega, ?_⟩
          show (if g.armed then g.left - 1 else g.left) < _
          split <;> omega
theorem Small.br {d : Ds} {k : Nat} (h : Small d k) (r : Int) : Small (d.br r) k := by
  unfold Ds.br
  split
  · exact h
  · rename_i g hg
    split
    · exact h
    · refine ⟨h.1, fun x hx => ?_⟩
      rcases List.mem_or_eq_of_mem_set hx with h1 | rfl
      · exact h.2 x h1
      · exact ⟨Nat.zero_le _, (h.2 g (at_mem hg)).2⟩
theorem Small.ar {d : Ds} {k : Nat} (h : Small d k) (r n : Int) (hn : n < 9223372036854775808) : Small (d.ar r n) k := by
  unfold Ds.ar
  split
  · exact h
  · rename_i g hg
    refine ⟨h.1, fun x hx => ?_⟩
    rcases List.mem_or_eq_of_mem_set hx with h1 | rfl
    · exact h.2 x h1
    · exact ⟨(h.2 g (at_mem hg)).1, by show n.toNat < _; omega⟩
theorem Small.crash {d : Ds} {k : Nat} (h : Small d k) (m : Nat → Bool) : Small (d.crash m) k := by
  refine ⟨h.1, fun x hx => ?_⟩
  obtain ⟨r, _, rfl⟩ := List.mem_map.1 hx
  exact ⟨Nat.zero_le _, by show (0 : Nat) < _; decide⟩
theorem Small.new (n size : Nat) : Small ⟨size, List.replicate n (Rg.new size), 0⟩ 0 := ⟨Nat.le_refl _, fun r hr => by rw [(List.mem_replicate.1 hr).2]; exact ⟨Nat.le_refl _, by show (0 : Nat) < _; decide⟩⟩

section
variable {w : World} {X : Nat → Prop} {l : List (Nat × Ds)} {i g : Nat} {d : Ds}
/-- Write, whatever is handed in. -/
theorem write_many (h : Many w X l) (hi : l[i]? = some (g, d)) (hs : Small d 1000000000000) (r s : Int) (A : Option Addr) (c : Nat) (b : List UInt8) (hv : Rd w (.slice A b.length c) (u8s b)) :
    Calls Try.prog 8 #[ptr g, .int .i64 r, .int .i64 s, .slice A b.length c] w (fun e w' => e = .returned (.int .i64 (d.wrCode r s b.length)) ∧ Many w' X (l.set i (g, d.wr r s b)) ∧ Out X w w') := by
  refine many_calls h hi (fun lab hd => ?_)
  have stay : ∀ {z : Int}, Calls Try.prog 8 #[ptr g, .int .i64 r, .int .i64 s, .slice A b.length c] w (fun e w' => e = .returned (.int .i64 z) ∧ w = w') → Calls Try.prog 8 #[ptr g, .int .i64 r, .int .i64 s, .slice A b.length c] w (DkRet w lab g (.int .i64 z) d) :=
    fun hc => hc.mono fun e w' ⟨he, hw⟩ => ⟨he, lab, hw ▸ hd, hw ▸ DkStep.refl _ _⟩
  unfold Ds.wrCode Ds.wr
  cases hr : d.at? r with
  | none => exact stay (write_bad0 hd r s A _ c hr)
  | some rg =>
    simp only
    by_cases h1 : s < 0 ∨ (d.size : Int) ≤ s
    · have e : s < 0 ∨ (d.size : Int) ≤ s ∨ 64 < b.length := by omega
      rw [if_pos e, if_pos e]
      exact stay (write_bad1 hd r s A _ c hr h1)
    · obtain ⟨k, rfl⟩ : ∃ k : Nat, s = (k : Int) := ⟨s.toNat, by omega⟩
      by_cases h2 : 64 < b.length
      · have e : (k : Int) < 0 ∨ (d.size : Int) ≤ (k : Int) ∨ 64 < b.length := by omega
        rw [if_pos e, if_pos e]
        exact stay (write_bad2 hd r k A _ c hr (by omega) h2)
      · have e : ¬ ((k : Int) < 0 ∨ (d.size : Int) ≤ (k : Int) ∨ 64 < b.length) := by omega
        rw [if_neg e, if_neg e]
        cases hdn : rg.down
        · have hm := hs.2 rg (at_mem hr)
          exact write_ok hd r k A c b hr (by omega) (by omega) hdn hv hs.1 hm.1 hm.2
        · exact stay (write_down hd r k A _ c hr (by omega) (by omega) hdn)
theorem barrier_many (h : Many w X l) (hi : l[i]? = some (g, d)) (r : Int) : Calls Try.prog 9 #[ptr g, .int .i64 r] w (fun e w' => e = .returned (.int .i64 (d.brCode r)) ∧ Many w' X (l.set i (g, d.br r)) ∧ Out X w w') :=
  many_calls h hi (fun _ hd => barrier_any hd r)
theorem crash_many (h : Many w X l) (hi : l[i]? = some (g, d)) (hs : Small d 1000000000000) (mask : Nat) : Calls Try.prog 12 #[ptr g, .int .u64 (mask : Int)] w (fun e w' => e = .returned (.tuple #[]) ∧ Many w' X (l.set i (g, d.crash (bitOf mask))) ∧ Out X w w') :=
  many_calls h hi (fun lab hd => (crash_any hd mask (fun r hr => (hs.2 r hr).1)).mono fun _ _ ⟨he, h1, h2⟩ => ⟨he, lab, h1, h2⟩)
theorem read_many_bad (h : Many w X l) (hi : l[i]? = some (g, d)) (r s : Int) (hn : d.rd? r s = none) : Calls Try.prog 14 #[ptr g, .int .i64 r, .int .i64 s] w fun e w' => e = .returned (.tuple #[.slice none 0 0, .int .i64 1]) ∧ w = w' := by
  obtain ⟨lab, hd⟩ := many_at h hi; exact read_bad hd r s hn
theorem read_many (h : Many w X l) (hi : l[i]? = some (g, d)) (r s : Int) {b : Sec} (hn : d.rd? r s = some b) :
    Calls Try.prog 14 #[ptr g, .int .i64 r, .int .i64 s] w fun e w' => e = .returned (.tuple #[.slice (some ⟨w.heap.size, 0, none⟩) 64 64, .int .i64 0]) ∧ b.length = 64 ∧ Blk w' w.heap.size 5 (blk8 b) ∧ Many w' X l ∧ Below w.heap.size w w' := by
  obtain ⟨lab, hd⟩ := many_at h hi
  exact (read_ok hd r s hn).mono fun _ _ ⟨h1, h2, h3, h4⟩ => ⟨h1, h2, h3, h.below h4, h4⟩
/-- One more disk. -/
theorem new_many (h : Many w X l) (n size : Nat) (h1 : 1 ≤ n) (h2 : n ≤ 64) (h3 : 1 ≤ size) (h4 : size ≤ 65536) :
    Calls Try.prog 7 #[.int .i64 (n : Int), .int .i64 (size : Int)] w fun e w' => ∃ g, e = .returned (ptr g) ∧ Many w' X (l ++ [(g, ⟨size, List.replicate n (Rg.new size), 0⟩)]) ∧ Below w.heap.size w w' := by
  refine (new_yes n size w h1 h2 h3 h4).mono ?_
  rintro e w' ⟨g, lab, rfl, hd, hlab, hb⟩
  obtain ⟨hX, labs, q1, q2, q3, q4⟩ := id h
  refine ⟨g, rfl, ⟨fun k hk => Nat.lt_of_lt_of_le (hX k hk) hb.size, fun j => if j = l.length then lab else labs j, fun j x hj => ?_, fun j k hj => ?_, fun j k hk hx => ?_, fun j j' k hk hk' => ?_⟩, hb⟩
  · by_cases e : j = l.length
    · subst e
      rw [List.getElem?_append_right (Nat.le_refl _)] at hj
      simp at hj
      subst hj
      simpa using hd
    · simp only
      rw [if_neg e]
      have hjl : j < l.length := by have := (List.getElem?_eq_some_iff.1 hj).1; simp at this; omega
      rw [List.getElem?_append_left hjl] at hj
      exact (q1 j x hj).below hb
  · simp at hj
    simp only
    rw [if_neg (by omega)]; exact q2 j k (by omega)
  · simp only at hk
    split at hk
    · have := hlab k hk; have := hX k hx; omega
    · exact q3 j k hk hx
  · simp only at hk hk'
    by_cases e : j = l.length
    · by_cases e' : j' = l.length
      · rw [e, e']
      · rw [if_pos e] at hk
        rw [if_neg e'] at hk'
        have := hlab k hk; have := labs_lt labs q1 q2 hk'; omega
    · rw [if_neg e] at hk
      by_cases e' : j' = l.length
      · rw [if_pos e'] at hk'
        have := hlab k hk'; have := labs_lt labs q1 q2 hk; omega
      · rw [if_neg e'] at hk'
        exact q4 j j' k hk hk'
end
end
section
/- What a disk answers, case by case (plain data); bits of small masks. -/
open Go.RowKit
set_option maxRecDepth 20000

section
variable {d : Ds} {r s : Int} {g : Rg} {b : List UInt8}
theorem wr_ok (h : d.at? r = some g) (h0 : 0 ≤ s) (h1 : s < (d.size : Int)) (hb : b.length ≤ 64) (hd : g.down = false) : d.wrCode r s b.length = 0 ∧ d.wr r s b = d.write r.toNat g s.toNat (pad b) := by
  unfold Ds.wrCode Ds.wr
  rw [h]
  simp only
  have e : ¬ (s < 0 ∨ (d.size : Int) ≤ s ∨ 64 < b.length) := by omega
  rw [if_neg e, if_neg e, hd]
  exact ⟨rfl, rfl⟩
theorem wr_dn (h : d.at? r = some g) (h0 : 0 ≤ s) (h1 : s < (d.size : Int)) (hb : b.length ≤ 64) (hd : g.down = true) : d.wrCode r s b.length = 10 ∧ d.wr r s b = d := by
  unfold Ds.wrCode Ds.wr
  rw [h]
  simp only
  have e : ¬ (s < 0 ∨ (d.size : Int) ≤ s ∨ 64 < b.length) := by omega
  rw [if_neg e, if_neg e, hd]
  exact ⟨rfl, rfl⟩
theorem wr_none (h : d.at? r = none) : d.wrCode r s b.length = 1 ∧ d.wr r s b = d := by
  unfold Ds.wrCode Ds.wr
  rw [h]
  exact ⟨rfl, rfl⟩
theorem wr_bad (h : d.at? r = some g) (h1 : s < 0 ∨ (d.size : Int) ≤ s ∨ 64 < b.length) : d.wrCode r s b.length = 1 ∧ d.wr r s b = d := by
  unfold Ds.wrCode Ds.wr
  rw [h]
  simp only
  rw [if_pos h1, if_pos h1]
  exact ⟨rfl, rfl⟩
theorem rd_some (h : d.at? r = some g) (h0 : 0 ≤ s) (h1 : s < (d.size : Int)) : d.rd? r s = g.secs[s.toNat]? := by
  unfold Ds.rd?
  rw [h]
  simp only
  rw [if_neg (by omega)]
theorem rd_none (h : d.at? r = none) : d.rd? r s = none := by unfold Ds.rd?; rw [h]
theorem rd_bad (h : d.at? r = some g) (h1 : s < 0 ∨ (d.size : Int) ≤ s) : d.rd? r s = none := by
  unfold Ds.rd?
  rw [h]
  simp only
  rw [if_pos h1]
end
theorem at_nat (d : Ds) (i : Nat) : d.at? (i : Int) = d.regs[i]? := by
  unfold Ds.at?
  rw [if_neg (by omega), Int.toNat_natCast]
theorem and_low (x : Int) (j : Nat) (hj : j ≤ 31) : ∃ m : Nat, m < 2 ^ j ∧ bits .and .i64 x ((2 ^ j - 1 : Nat) : Int) = (m : Int) := by
  have hp : 2 ^ j ≤ 2 ^ 31 := Nat.pow_le_pow_right (by omega) hj
  have hp2 : (2 : Nat) ^ 31 = 2147483648 := by decide
  have hpos : 0 < 2 ^ j := Nat.two_pow_pos j
  generalize 2 ^ j = p at *
  have h1 : bits .and .i64 x ((p - 1 : Nat) : Int) = IntKind.i64.wrap (((BitVec.ofInt 64 x &&& BitVec.ofInt 64 ((p - 1 : Nat) : Int)).toNat : Int)) := rfl
  have h2 : (BitVec.ofInt 64 x &&& BitVec.ofInt 64 ((p - 1 : Nat) : Int)).toNat ≤ p - 1 := by
    rw [BitVec.toNat_and, BitVec.ofInt_natCast, BitVec.toNat_ofNat, Nat.mod_eq_of_lt (by omega)]
    exact Nat.and_le_right
  rw [h1]
  generalize (BitVec.ofInt 64 x &&& BitVec.ofInt 64 ((p - 1 : Nat) : Int)).toNat = c at *
  refine ⟨c, by omega, ?_⟩
  rw [IntKind.wrap_i64]
  omega
theorem and31 (x : Int) : ∃ m : Nat, m < 32 ∧ bits .and .i64 x 31 = (m : Int) := and_low x 5 (by omega)
theorem and3 (x : Int) : ∃ m : Nat, m < 4 ∧ bits .and .i64 x 3 = (m : Int) := and_low x 2 (by omega)
theorem and7 (x : Int) : ∃ m : Nat, m < 8 ∧ bits .and .i64 x 7 = (m : Int) := and_low x 3 (by omega)
end

end Go.Proofs.Ytlplibgcfhamgaa
