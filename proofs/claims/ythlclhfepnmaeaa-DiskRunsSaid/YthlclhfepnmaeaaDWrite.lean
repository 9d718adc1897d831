/-
  Contract: one write into a region.
-/
import Derived.Test.YthlclhfepnmaeaaDNew
import Derived.Test.YthlclhfepnmaeaaPhase
import Derived.Test.YthlclhfepnmaeaaFill
import Derived.Test.YthlclhfepnmaeaaAppN
namespace Go.Proofs.Ythlclhfepnmaeaa
open Go.RowKit

theorem range_below {w w' : World} {b o : Nat} {cs : List Value} (h : w.rangeAt b o cs) (hA : Abv w w') (hb : b < w.heap.size) : w'.rangeAt b o cs :=
  fun j v hv => (Below.cell hA (p := ⟨b, o + j, none⟩) hb).trans (h j v hv)
theorem there_below {w w' : World} {b o n : Nat} (h : w.there b o n) (hA : Abv w w') (hb : b < w.heap.size) : w'.there b o n :=
  fun j hj => ⟨by rw [Below.cell hA (p := ⟨b, o + j, none⟩) hb]; exact (h j hj).1, by rw [Below.frozen hA (p := ⟨b, o + j, none⟩) hb]; exact (h j hj).2⟩
theorem Blk.range {w : World} {b o : Nat} {t : TypeId} {cs : Array Value} {l : List Value} (h : Blk w b t cs) (hl : ∀ j, j < l.length → cs[o + j]? = l[j]?) : w.rangeAt b o l := fun j v hv => by
  have hj := (List.getElem?_eq_some_iff.1 hv).1
  exact h.cell (o + j) v ((hl j hj).trans hv)
theorem Blk.there {w : World} {b o n : Nat} {t : TypeId} {cs : Array Value} (h : Blk w b t cs) (hn : o + n ≤ cs.size) : w.there b o n := fun j hj =>
  ⟨by rw [h.cell (o + j) _ (Array.getElem?_eq_getElem (by omega))]; rfl, h.frozen _⟩
theorem Kept.frozen {S : Nat → Prop} {a b : World} (h : Kept S a b) {p : Addr} (hlt : p.block < a.heap.size) (hn : ¬ S p.block) : b.frozen? p = a.frozen? p := World.frozen?_of_block (h.block _ hlt hn)
theorem own_form_n {w : World} {base size : Nat} {e : TypeId} {v : Value} {n : Nat} {xs : List Value} (h : w.ownsRow base e size v n xs) : ∃ A c, v = .slice A n c := by
  rcases h.2 with ⟨rfl, rfl⟩ | ⟨g, cap, cur, rfl, _⟩
  · exact ⟨_, _, rfl⟩
  · exact ⟨_, _, rfl⟩
theorem own_lt {w : World} {base size : Nat} {e : TypeId} {v : Value} {n : Nat} {xs : List Value} (h : w.ownsRow base e size v n xs) {k : Nat} (hk : v.ownBlock = some k) : k < w.heap.size := by
  rcases h.2 with ⟨rfl, rfl⟩ | ⟨g, cap, cur, rfl, _, hg, _⟩
  · cases hk
  · injection hk with hk
    subst hk
    exact Blk.lt hg
theorem oneCell_c (c : Chg) : ∀ u ∈ ccells c, u.oneCell' = true := by
  intro u hu
  rcases List.mem_cons.1 hu with rfl | hu
  · rfl
  · rcases List.mem_append.1 hu with hu | hu
    · exact oneCell_u8s _ u hu
    · exact oneCell_u8s _ u hu
theorem chSize : (Value.agg (ccells ⟨0, zsec, zsec⟩).toArray).cells.size = 129 := by kernel_rfl
theorem build_ch (w : World) (s : Nat) (before after : Sec) (hb : before.length = 64) (ha : after.length = 64) :
    (Instr.build 64 #[(0, .int .i64 (s : Int)), (1, .agg (u8s before).toArray), (2, .agg (u8s after).toArray)]).run Try.prog w = .ok (.agg (ccells ⟨s, before, after⟩).toArray) w := by
  have h := run_build3 (P := Try.prog) w 64 _ _ 129 136 1 64 64 (.int .i64 (s : Int)) (.agg (u8s before).toArray) (.agg (u8s after).toArray) Try.underlying64 infoCh (by kernel_rfl) (by kernel_rfl) rfl
    (by show (u8s before).toArray.size = 64; rw [List.size_toArray, u8s_length, hb]) (by show (u8s after).toArray.size = 64; rw [List.size_toArray, u8s_length, ha])
  exact h
theorem secInfo (l : Sec) (h : l.length = 64) : (Try.prog.info? 60).map (·.size) = some (u8s l).length := by
  rw [u8s_length, h]; kernel_rfl

/-- The one new change lies in a row of its own. -/
def WrA (w1 : World) (cells : Array Value) (v : Value) (w : World) : Prop := ∃ b, v = .slice (some ⟨b, 0, none⟩) 1 1 ∧ Blk w b 64 cells ∧ Abv w1 w
/-- It stands behind the others. -/
def WrB (w1 : World) (pv : Value) (m : Nat) (xs : List Value) (v : Value) (w : World) : Prop :=
  w.ownsRow 0 64 129 v (m + 1) xs ∧ (v.ownBlock = pv.ownBlock ∨ ∃ k, v.ownBlock = some k ∧ w1.heap.size ≤ k) ∧ Kept (fun k => pv.ownBlock = some k) w1 w
/-- The region has them. -/
def WrC (w1 : World) (pv : Value) (m : Nat) (xs : List Value) (g2 o : Nat) (v : Value) (w : World) : Prop := ∃ u, WrB w1 pv m xs v u ∧ w = u.setCell ⟨g2, o + 1, none⟩ v
/-- On the way: the changes are written down, the sector may be. -/
structure WrMid (w0 : World) (g2 o sb m : Nat) (cs : Array Value) (l : List UInt8) (pv : Value) (xs : List Value) (after : Sec) (v : Value) (w : World) : Prop where
  row : Blk w g2 56 (cs.setIfInBounds (o + 1) v)
  own : w.ownsRow 0 64 129 v (m + 1) xs
  at_ : v.ownBlock = pv.ownBlock ∨ ∃ k, v.ownBlock = some k ∧ w0.heap.size ≤ k
  kept : Kept (fun k => k = g2 ∨ k = sb ∨ pv.ownBlock = some k) w0 w
  sec : Blk w sb 60 (blk8 l)
  box : Blk w w0.heap.size 60 (u8s after).toArray
theorem wr_mid1 {w0 : World} {g2 o sb m : Nat} {cs : Array Value} {l : List UInt8} {pv : Value} {xs : List Value} {after : Sec} {v : Value} {u : World} {m0 : Nat} {xs0 : List Value} (hb2 : Blk w0 g2 56 cs) (hsb : Blk w0 sb 60 (blk8 l)) (ne : g2 ≠ sb)
    (hpv : w0.ownsRow 0 64 129 pv m0 xs0) (np : ∀ k, pv.ownBlock = some k → k ≠ g2 ∧ k ≠ sb) (h : WrB (w0.alloc (.cells (u8s after).toArray 60)) pv m xs v u) : WrMid w0 g2 o sb m cs l pv xs after v (u.setCell ⟨g2, o + 1, none⟩ v) := by
  obtain ⟨ho, hat, hk⟩ := h
  have hlt := hb2.lt
  have hlt2 := hsb.lt
  have hbx : Blk (w0.alloc (.cells (u8s after).toArray 60)) w0.heap.size 60 (u8s after).toArray := Blk.new_ w0 _ _ rfl
  have h2 := hk.blk (hb2.alloc _) (fun hc => (np _ hc).1 rfl)
  have h3 := hk.blk (hsb.alloc _) (fun hc => (np _ hc).2 rfl)
  have h4 := hk.blk hbx (fun hc => by have := own_lt hpv hc; omega)
  have hK : Kept (fun k => k = g2 ∨ k = sb ∨ pv.ownBlock = some k) w0 u := (Kept.alloc _ w0 _).trans hk (fun i hi => .inl (.inr (.inr hi)))
  have hov : ∀ k, v.ownBlock = some k → k ≠ g2 := by
    intro k hv e
    subst e
    rcases hat with h | ⟨k', h, hle⟩
    · exact (np k (h.symm.trans hv)).1 rfl
    · rw [hv] at h; injection h with h; subst h; simp at hle; omega
  refine ⟨h2.set_ (o + 1) v, ?_, ?_, hK.trans (Kept.setCell u ⟨g2, o + 1, none⟩ v) (fun i hi => .inl (.inl hi)), h3.far (p := ⟨g2, o + 1, none⟩) (fun e => ne e.symm) v, h4.far (p := ⟨g2, o + 1, none⟩) (by show w0.heap.size ≠ g2; omega) v⟩
  · exact (Kept.setCell u ⟨g2, o + 1, none⟩ v).own ho (fun k hk' hc => hov k hk' hc)
  · rcases hat with h | ⟨k', h, hle⟩
    · exact .inl h
    · exact .inr ⟨k', h, by simp at hle; omega⟩
theorem wr_mid2 {w0 : World} {g2 o sb m s : Nat} {cs : Array Value} {l l' : List UInt8} {pv : Value} {xs : List Value} {after : Sec} {v : Value} {u u2 : World} (h : WrMid w0 g2 o sb m cs l pv xs after v u) (hA : Abv u u2) (hne : g2 ≠ sb) (hlt : sb < w0.heap.size)
    (nv : ∀ k, v.ownBlock = some k → k ≠ sb) (hlen : s * 64 + after.length ≤ l.length) (hl : l' = l.take (s * 64) ++ (after ++ l.drop (s * 64 + after.length))) :
    WrMid w0 g2 o sb m cs l' pv xs after v (u2.setCells sb (s * 64) (u8s after)) := by
  have hk : Kept (fun k => k = sb) u (u2.setCells sb (s * 64) (u8s after)) := (Kept.of_below hA).trans_same (Kept.setCells u2 sb (s * 64) (u8s after))
  refine ⟨hk.blk h.row hne, hk.own h.own nv, h.at_, h.kept.trans hk (fun i hi => .inl (.inr (.inl hi))), ?_, hk.blk h.box (by show ¬ w0.heap.size = sb; omega)⟩
  have := Blk.setCells (u8s after) (s * 64) u2 (blk8 l) (h.sec.below hA) (by rw [u8s_length, blk8_size]; exact hlen)
  rw [hl]
  unfold blk8 at this ⊢
  rw [u8s_length] at this
  simpa [u8s_append, u8s_take, u8s_drop] using this
theorem wr_mid3 {w0 : World} {g2 o sb m : Nat} {cs : Array Value} {l : List UInt8} {pv : Value} {xs : List Value} {after : Sec} {v x : Value} {w : World} (h : WrMid w0 g2 o sb m cs l pv xs after v w) (hne : g2 ≠ sb) (nv : ∀ k, v.ownBlock = some k → k ≠ g2) :
    Blk (w.setCell ⟨g2, o + 3, none⟩ x) g2 56 ((cs.setIfInBounds (o + 1) v).setIfInBounds (o + 3) x) ∧ Blk (w.setCell ⟨g2, o + 3, none⟩ x) sb 60 (blk8 l) ∧ (w.setCell ⟨g2, o + 3, none⟩ x).ownsRow 0 64 129 v (m + 1) xs ∧
      Kept (fun k => k = g2 ∨ k = sb ∨ pv.ownBlock = some k) w0 (w.setCell ⟨g2, o + 3, none⟩ x) :=
  ⟨h.row.set_ _ _, h.sec.far (p := ⟨g2, o + 3, none⟩) (fun e => hne e.symm) x, (Kept.setCell w ⟨g2, o + 3, none⟩ x).own h.own nv, h.kept.trans (Kept.setCell w ⟨g2, o + 3, none⟩ x) (fun _ hi => .inl (.inl hi))⟩

/-- What one write leaves. -/
def WrPost (w0 : World) (g2 o sb m : Nat) (cs : Array Value) (l : List UInt8) (pv : Value) (xs : List Value) (armed : Bool) (left : Nat) (e : Ending) (w : World) : Prop :=
  e = .returned (.tuple #[]) ∧ ∃ v, Blk w g2 56 (if armed then (cs.setIfInBounds (o + 1) v).setIfInBounds (o + 3) (.int .i64 ((left - 1 : Nat) : Int)) else cs.setIfInBounds (o + 1) v) ∧ Blk w sb 60 (blk8 l) ∧
    w.ownsRow 0 64 129 v (m + 1) xs ∧ (v.ownBlock = pv.ownBlock ∨ ∃ k, v.ownBlock = some k ∧ w0.heap.size ≤ k) ∧ Kept (fun k => k = g2 ∨ k = sb ∨ pv.ownBlock = some k) w0 w

set_option maxRecDepth 100000 in
set_option maxHeartbeats 4000000 in
theorem write_any (w0 : World) (g2 o sb s n m : Nat) (cs : Array Value) (secs : List Sec) (pv : Value) (xs0 : List Value) (armed : Bool) (left : Nat) (before after : Sec) (hb2 : Blk w0 g2 56 cs) (c0 : cs[o]? = some (.slice (some ⟨sb, 0, none⟩) n n)) (c1 : cs[o + 1]? = some pv)
    (c2 : cs[o + 2]? = some (.bool armed)) (c3 : cs[o + 3]? = some (.int .i64 (left : Int))) (hsb : Blk w0 sb 60 (blk8 secs.flatten)) (hfull : ∀ s ∈ secs, s.length = 64) (hn : secs.length = n) (hs : s < n) (hbef : secs.getD s zsec = before)
    (hla0 : after.length = 64) (hpv : w0.ownsRow 0 64 129 pv m xs0) (hm : m ≤ 1000000) (ne : g2 ≠ sb) (np : ∀ k, pv.ownBlock = some k → k ≠ g2 ∧ k ≠ sb) (hleft : armed = true → 0 < left) (hleft2 : left < 9223372036854775808) :
    Calls Try.prog 19 #[.pointer (some ⟨g2, o, none⟩), .int .i64 (s : Int), .agg (u8s after).toArray] w0 (WrPost w0 g2 o sb m cs (secs.set s after).flatten pv (xs0 ++ ccells ⟨s, before, after⟩) armed left) := by
  have hs' : s < secs.length := by omega
  have hlb0 : before.length = 64 := by
    rw [← hbef, List.getD_eq_getElem?_getD, List.getElem?_eq_getElem hs']
    exact hfull _ (List.getElem_mem hs')
  have hbe : secs[s] = before := by
    rw [← hbef, List.getD_eq_getElem?_getD, List.getElem?_eq_getElem hs']; rfl
  have hfl := flat_length secs hfull
  obtain ⟨xs, hxs⟩ : ∃ xs, xs = xs0 ++ ccells ⟨s, before, after⟩ := ⟨_, rfl⟩
  rw [← hxs]
  have hgl := hb2.lt
  have hsl := hsb.lt
  have hsl2 : secs.flatten.length = (blk8 secs.flatten).size := (blk8_size _).symm
  have HG := hide (show (⟨g2, o, none⟩ : Addr).block < (w0.alloc (.cells (u8s after).toArray 60)).heap.size by simp; omega)
  have HSB := hide (show sb < (w0.alloc (.cells (u8s after).toArray 60)).heap.size by simp; omega)
  have HFB := hide (show w0.heap.size < (w0.alloc (.cells (u8s after).toArray 60)).heap.size by simp)
  have HC0 := hide ((hb2.alloc (.cells (u8s after).toArray 60)).cell o _ c0)
  have HC1 := hide ((hb2.alloc (.cells (u8s after).toArray 60)).cell (o + 1) _ c1)
  have HF1 := hide ((hb2.alloc (.cells (u8s after).toArray 60)).frozen (o + 1))
  have HR := hide (Blk.range (o := s * 64) (l := u8s before) (hsb.alloc (.cells (u8s after).toArray 60)) (fun j hj => by
    rw [u8s_length, hlb0] at hj
    unfold blk8
    rw [List.getElem?_toArray]
    simp only [u8s, List.getElem?_map]
    rw [flat_get secs hfull s j hs' hj, hbe]))
  have HF := hide (Blk.range (o := 0) (l := u8s after) (Blk.new_ w0 (u8s after).toArray 60 rfl) (fun j hj => by simp))
  have HO := hide ((Kept.alloc (fun _ => False) w0 (.cells (u8s after).toArray 60)).own hpv (fun _ _ h => h))
  have HNP := hide (show ¬ (fun k => pv.ownBlock = some k) (⟨g2, o + 1, none⟩ : Addr).block from fun h => (np _ h).1 rfl)
  have HLB := hide (secInfo before hlb0)
  have HLA := hide (secInfo after hla0)
  have HLA2 := hide (show (Try.prog.info? 60).map (·.size) = some (u8s after).toArray.size by rw [List.size_toArray]; exact secInfo after hla0)
  have hlb := hide hlb0
  have hla := hide hla0
  have M1 : ∀ v u, WrB (w0.alloc (.cells (u8s after).toArray 60)) pv m xs v u → WrMid w0 g2 o sb m cs secs.flatten pv xs after v (u.setCell ⟨g2, o + 1, none⟩ v) := fun v u h => wr_mid1 hb2 hsb ne hpv np h
  have HM1 := hide M1
  have hs0 : (0 : Int) ≤ (s : Int) := by omega
  have hs1 : (s : Int) < (n : Int) := by omega
  have HN := hide hn
  have hcsz : o + 3 < cs.size := (Array.getElem?_eq_some_iff.1 c3).1
  have HNE := hide ne
  have HNPV := hide np
  have HFL := hide hfl
  have HFULL := hide hfull
  have HC2 := hide c2
  have HC3 := hide c3
  have HCS0 := hide c0
  have HLT := hide hpv
  have HBE := hide hbe
  have HXS := hide hxs
  clear hn c0 c1 c2 c3 hb2 hsb hpv hfl hfull M1 ne np hlb0 hla0 hbef hbe hsl2 hxs
  go_enter Try.func19, Try.ntmps19
  go_wp2
  refine region_phases (ops := _) (valV [some (.pointer (some ⟨g2, o, none⟩)), some (.pointer (some ⟨g2, o, none⟩)), some (.pointer (some ⟨g2, o, none⟩)), some (.pointer (some ⟨g2, o + 1, none⟩)), some (pv), some (.int .i64 (s : Int)), some (.pointer (some ⟨g2, o, none⟩)), some (.pointer (some ⟨g2, o, none⟩)), some (.pointer (some ⟨g2, o, none⟩)), some (.slice (some ⟨sb, 0, none⟩) n n), some (.int .i64 (s : Int)), some (.pointer (some ⟨sb, s * 64, none⟩)), some (.agg (u8s before).toArray), some (.agg (u8s after).toArray), some (.agg (ccells ⟨s, before, after⟩).toArray), none, none, some (.pointer (some ⟨g2, o, none⟩)), some (.pointer (some ⟨g2, o + 1, none⟩)), none]) (phased [⟨19, 16, WrC (w0.alloc (.cells (u8s after).toArray 60)) pv m xs g2 o⟩, ⟨16, 16, WrB (w0.alloc (.cells (u8s after).toArray 60)) pv m xs⟩, ⟨15, 15, WrA (w0.alloc (.cells (u8s after).toArray 60)) (ccells ⟨s, before, after⟩).toArray⟩] (fun w => Abv (w0.alloc (.cells (u8s after).toArray 60)) w)) (by kernel_rfl) (by kernel_rfl) (by kernel_rfl) (by kernel_rfl) (phased_ext (by kernel_rfl)) ?_ ?_ ?_
  · exact (Abv.refl _).drew
  · intro i o ho L a w2 hph hsz hLi hnot hyes old dep
    match i, ho with
    | 0, ho =>
      obtain rfl := Option.some.inj ho
      rw [if_pos (wanted_none rfl)]
      have o0 := old 0 (by kernel_rfl)
      refine wp_yields (v := .pointer (some ⟨g2, o, none⟩)) (w' := w2) ?_ (fun u hu => Option.some.inj (Option.some.inj hu)) (phased_quiet hLi (by rfl) hph)
      clear dep old ho hsz hph hnot hyes hLi
      go_simp
    | 1, ho =>
      obtain rfl := Option.some.inj ho
      rw [if_pos (wanted_none rfl)]
      have o0 := old 0 (by kernel_rfl)
      refine wp_yields (v := .pointer (some ⟨g2, o, none⟩)) (w' := w2) ?_ (fun u hu => Option.some.inj (Option.some.inj hu)) (phased_quiet hLi (by rfl) hph)
      clear dep old ho hsz hph hnot hyes hLi
      go_simp
    | 2, ho =>
      obtain rfl := Option.some.inj ho
      rw [if_pos (wanted_none rfl)]
      have d1 : a.tmps.getD 7 undef = .pointer (some ⟨g2, o, none⟩) := dep 1 _ _ (by kernel_rfl) rfl rfl _ rfl
      have e1 : a.tmps[7]?.getD undef = .pointer (some ⟨g2, o, none⟩) := (Array.getD_eq_getD_getElem? ..).symm.trans d1
      refine wp_yields (v := .pointer (some ⟨g2, o, none⟩)) (w' := w2) ?_ (fun u hu => Option.some.inj (Option.some.inj hu)) (phased_quiet hLi (by rfl) hph)
      clear dep old ho hsz hph hnot hyes hLi
      go_simp
    | 3, ho =>
      obtain rfl := Option.some.inj ho
      rw [if_pos (wanted_none rfl)]
      have d2 : a.tmps.getD 8 undef = .pointer (some ⟨g2, o, none⟩) := dep 2 _ _ (by kernel_rfl) rfl rfl _ rfl
      have e2 : a.tmps[8]?.getD undef = .pointer (some ⟨g2, o, none⟩) := (Array.getD_eq_getD_getElem? ..).symm.trans d2
      refine wp_yields (v := .pointer (some ⟨g2, o + 1, none⟩)) (w' := w2) ?_ (fun u hu => Option.some.inj (Option.some.inj hu)) (phased_quiet hLi (by rfl) hph)
      clear dep old ho hsz hph hnot hyes hLi
      go_simp
    | 4, ho =>
      obtain rfl := Option.some.inj ho
      rw [if_pos (wanted_none rfl)]
      have d3 : a.tmps.getD 9 undef = .pointer (some ⟨g2, o + 1, none⟩) := dep 3 _ _ (by kernel_rfl) rfl rfl _ rfl
      have e3 : a.tmps[9]?.getD undef = .pointer (some ⟨g2, o + 1, none⟩) := (Array.getD_eq_getD_getElem? ..).symm.trans d3
      have hA : Abv (w0.alloc (.cells (u8s after).toArray 60)) w2 := by
        have hph2 := hph
        unfold phased phased phased phased at hph2
        rw [if_neg (by rw [hnot 19 (by kernel_rfl)]; decide), if_neg (by rw [hnot 16 (by kernel_rfl)]; decide)] at hph2
        split at hph2
        · obtain ⟨_, b, _, _, hA⟩ := hph2; exact hA
        · exact hph2
      have hc := (Below.cell hA (p := ⟨g2, o + 1, none⟩) HG.out).trans HC1.out
      refine wp_yields (v := pv) (w' := w2) ?_ (fun u hu => Option.some.inj (Option.some.inj hu)) (phased_quiet hLi (by rfl) hph)
      clear dep old ho hsz hph hnot hyes hLi
      go_simp
    | 5, ho =>
      obtain rfl := Option.some.inj ho
      rw [if_pos (wanted_none rfl)]
      have o1 := old 1 (by kernel_rfl)
      refine wp_yields (v := .int .i64 (s : Int)) (w' := w2) ?_ (fun u hu => Option.some.inj (Option.some.inj hu)) (phased_quiet hLi (by rfl) hph)
      clear dep old ho hsz hph hnot hyes hLi
      go_simp
    | 6, ho =>
      obtain rfl := Option.some.inj ho
      rw [if_pos (wanted_none rfl)]
      have o0 := old 0 (by kernel_rfl)
      refine wp_yields (v := .pointer (some ⟨g2, o, none⟩)) (w' := w2) ?_ (fun u hu => Option.some.inj (Option.some.inj hu)) (phased_quiet hLi (by rfl) hph)
      clear dep old ho hsz hph hnot hyes hLi
      go_simp
    | 7, ho =>
      obtain rfl := Option.some.inj ho
      rw [if_pos (wanted_none rfl)]
      have d6 : a.tmps.getD 12 undef = .pointer (some ⟨g2, o, none⟩) := dep 6 _ _ (by kernel_rfl) rfl rfl _ rfl
      have e6 : a.tmps[12]?.getD undef = .pointer (some ⟨g2, o, none⟩) := (Array.getD_eq_getD_getElem? ..).symm.trans d6
      refine wp_yields (v := .pointer (some ⟨g2, o, none⟩)) (w' := w2) ?_ (fun u hu => Option.some.inj (Option.some.inj hu)) (phased_quiet hLi (by rfl) hph)
      clear dep old ho hsz hph hnot hyes hLi
      go_simp
    | 8, ho =>
      obtain rfl := Option.some.inj ho
      rw [if_pos (wanted_none rfl)]
      have d7 : a.tmps.getD 13 undef = .pointer (some ⟨g2, o, none⟩) := dep 7 _ _ (by kernel_rfl) rfl rfl _ rfl
      have e7 : a.tmps[13]?.getD undef = .pointer (some ⟨g2, o, none⟩) := (Array.getD_eq_getD_getElem? ..).symm.trans d7
      refine wp_yields (v := .pointer (some ⟨g2, o, none⟩)) (w' := w2) ?_ (fun u hu => Option.some.inj (Option.some.inj hu)) (phased_quiet hLi (by rfl) hph)
      clear dep old ho hsz hph hnot hyes hLi
      go_simp
    | 9, ho =>
      obtain rfl := Option.some.inj ho
      rw [if_pos (wanted_none rfl)]
      have d8 : a.tmps.getD 14 undef = .pointer (some ⟨g2, o, none⟩) := dep 8 _ _ (by kernel_rfl) rfl rfl _ rfl
      have e8 : a.tmps[14]?.getD undef = .pointer (some ⟨g2, o, none⟩) := (Array.getD_eq_getD_getElem? ..).symm.trans d8
      have hA : Abv (w0.alloc (.cells (u8s after).toArray 60)) w2 := phased_first (fun p hp => by simp only [List.mem_cons, List.not_mem_nil, or_false] at hp; rcases hp with rfl | rfl | rfl <;> exact hnot _ (by kernel_rfl)) hph
      have hc := (Below.cell hA (p := ⟨g2, o, none⟩) HG.out).trans HC0.out
      refine wp_yields (v := .slice (some ⟨sb, 0, none⟩) n n) (w' := w2) ?_ (fun u hu => Option.some.inj (Option.some.inj hu)) (phased_quiet hLi (by rfl) hph)
      clear dep old ho hsz hph hnot hyes hLi
      go_simp
    | 10, ho =>
      obtain rfl := Option.some.inj ho
      rw [if_pos (wanted_none rfl)]
      have o1 := old 1 (by kernel_rfl)
      refine wp_yields (v := .int .i64 (s : Int)) (w' := w2) ?_ (fun u hu => Option.some.inj (Option.some.inj hu)) (phased_quiet hLi (by rfl) hph)
      clear dep old ho hsz hph hnot hyes hLi
      go_simp
    | 11, ho =>
      obtain rfl := Option.some.inj ho
      rw [if_pos (wanted_none rfl)]
      have d9 : a.tmps.getD 15 undef = .slice (some ⟨sb, 0, none⟩) n n := dep 9 _ _ (by kernel_rfl) rfl rfl _ rfl
      have e9 : a.tmps[15]?.getD undef = .slice (some ⟨sb, 0, none⟩) n n := (Array.getD_eq_getD_getElem? ..).symm.trans d9
      have d10 : a.tmps.getD 16 undef = .int .i64 (s : Int) := dep 10 _ _ (by kernel_rfl) rfl rfl _ rfl
      have e10 : a.tmps[16]?.getD undef = .int .i64 (s : Int) := (Array.getD_eq_getD_getElem? ..).symm.trans d10
      refine wp_yields (v := .pointer (some ⟨sb, s * 64, none⟩)) (w' := w2) ?_ (fun u hu => Option.some.inj (Option.some.inj hu)) (phased_quiet hLi (by rfl) hph)
      clear dep old ho hsz hph hnot hyes hLi
      go_simp
    | 12, ho =>
      obtain rfl := Option.some.inj ho
      rw [if_pos (wanted_none rfl)]
      have d11 : a.tmps.getD 17 undef = .pointer (some ⟨sb, s * 64, none⟩) := dep 11 _ _ (by kernel_rfl) rfl rfl _ rfl
      have e11 : a.tmps[17]?.getD undef = .pointer (some ⟨sb, s * 64, none⟩) := (Array.getD_eq_getD_getElem? ..).symm.trans d11
      have hA : Abv (w0.alloc (.cells (u8s after).toArray 60)) w2 := phased_first (fun p hp => by simp only [List.mem_cons, List.not_mem_nil, or_false] at hp; rcases hp with rfl | rfl | rfl <;> exact hnot _ (by kernel_rfl)) hph
      refine wp_load_mid 60 _ rfl sb (s * 64) d11 (u8s before) _ (range_below HR.out hA HSB.out) Try.underlying60 rfl HLB.out ⟨_, rfl, (fun u hu => Option.some.inj (Option.some.inj hu)), phased_quiet hLi (by rfl) hph⟩
    | 13, ho =>
      obtain rfl := Option.some.inj ho
      rw [if_pos (wanted_none rfl)]
      have o5 := old 5 (by kernel_rfl)
      have hA : Abv (w0.alloc (.cells (u8s after).toArray 60)) w2 := phased_first (fun p hp => by simp only [List.mem_cons, List.not_mem_nil, or_false] at hp; rcases hp with rfl | rfl | rfl <;> exact hnot _ (by kernel_rfl)) hph
      refine wp_load_mid 60 _ rfl w0.heap.size 0 o5 (u8s after) _ (range_below HF.out hA HFB.out) Try.underlying60 rfl HLA.out ⟨_, rfl, (fun u hu => Option.some.inj (Option.some.inj hu)), phased_quiet hLi (by rfl) hph⟩
    | 14, ho =>
      obtain rfl := Option.some.inj ho
      rw [if_pos (wanted_none rfl)]
      have d5 : a.tmps.getD 11 undef = .int .i64 (s : Int) := dep 5 _ _ (by kernel_rfl) rfl rfl _ rfl
      have e5 : a.tmps[11]?.getD undef = .int .i64 (s : Int) := (Array.getD_eq_getD_getElem? ..).symm.trans d5
      have d12 : a.tmps.getD 18 undef = .agg (u8s before).toArray := dep 12 _ _ (by kernel_rfl) rfl rfl _ rfl
      have e12 : a.tmps[18]?.getD undef = .agg (u8s before).toArray := (Array.getD_eq_getD_getElem? ..).symm.trans d12
      have d13 : a.tmps.getD 19 undef = .agg (u8s after).toArray := dep 13 _ _ (by kernel_rfl) rfl rfl _ rfl
      have e13 : a.tmps[19]?.getD undef = .agg (u8s after).toArray := (Array.getD_eq_getD_getElem? ..).symm.trans d13
      have hr := build_ch w2 s before after hlb.out hla.out
      have d5' : a.eval (.tmp 11) = .int .i64 (s : Int) := d5
      have d12' : a.eval (.tmp 18) = .agg (u8s before).toArray := d12
      have d13' : a.eval (.tmp 19) = .agg (u8s after).toArray := d13
      refine wp_build_run (w' := w2) (v := .agg (ccells ⟨s, before, after⟩).toArray) 64 _ rfl ?_ ⟨_, rfl, (fun u hu => Option.some.inj (Option.some.inj hu)), (phased_quiet hLi (by rfl) hph)⟩
      simp only [List.map_toArray, List.map_cons, List.map_nil, d5', d12', d13']
      exact hr
    | 15, ho =>
      obtain rfl := Option.some.inj ho
      rw [if_pos (wanted_none rfl)]
      have d14 : a.tmps.getD 20 undef = .agg (ccells ⟨s, before, after⟩).toArray := dep 14 _ _ (by kernel_rfl) rfl rfl _ rfl
      have e14 : a.tmps[20]?.getD undef = .agg (ccells ⟨s, before, after⟩).toArray := (Array.getD_eq_getD_getElem? ..).symm.trans d14
      have hA : Abv (w0.alloc (.cells (u8s after).toArray 60)) w2 := phased_first (fun p hp => by simp only [List.mem_cons, List.not_mem_nil, or_false] at hp; rcases hp with rfl | rfl | rfl; exact hnot 19 (by kernel_rfl); exact hnot 16 (by kernel_rfl); exact hLi) hph
      have hr := run_slice_one (P := Try.prog) w2 54 64 (ccells ⟨s, before, after⟩).toArray _ 129 136 Try.underlying54 infoCh (by simpa using ccells_length _ hlb.out hla.out) (by omega) (by omega)
      have d14' : a.eval (.tmp 20) = .agg (ccells ⟨s, before, after⟩).toArray := d14
      refine wp_slice_run (w' := w2.alloc (.cells (ccells ⟨s, before, after⟩).toArray 64)) (v := .slice (some ⟨w2.heap.size, 0, none⟩) 1 1) 54 1 _ rfl ?_ ⟨_, rfl, (fun u hu => by cases Option.some.inj hu), ?_⟩
      · simp only [List.map_toArray, List.map_cons, List.map_nil, d14']
        exact hr
      · unfold phased phased phased
        rw [if_neg (by simp [also, hnot 19 (by kernel_rfl)]), if_neg (by simp [also, hnot 16 (by kernel_rfl)]), if_pos (by simp [also])]
        exact ⟨by simp [also], w2.heap.size, by simp [yielding], Blk.new_ w2 _ _ rfl, hA.alloc _⟩
    | 16, ho =>
      obtain rfl := Option.some.inj ho
      rw [if_pos (wanted_none rfl)]
      have d4 : a.tmps.getD 10 undef = pv := dep 4 _ _ (by kernel_rfl) rfl rfl _ rfl
      have e4 : a.tmps[10]?.getD undef = pv := (Array.getD_eq_getD_getElem? ..).symm.trans d4
      unfold phased phased phased at hph
      rw [if_neg (by rw [hnot 19 (by kernel_rfl)]; decide), if_neg (by rw [hLi]; decide), if_pos (hyes 15 (by kernel_rfl))] at hph
      obtain ⟨_, b, eb, hbb, hA⟩ := hph
      have eb' : a.eval (.tmp 21) = .slice (some ⟨b, 0, none⟩) 1 1 := eb
      have d4' : a.eval (.tmp 10) = pv := d4
      refine wp_append_rows (.tmp 10) (.tmp 21) 54 rfl (base := 0) 64 _ 129 136 Try.underlying54 infoCh chSize (by omega) pv m xs0 d4' ((Kept.of_below (S := fun _ => False) hA).own HO.out (fun _ _ h => h)) b 1 1 (ccells ⟨s, before, after⟩) eb' (ccells_length _ hlb.out hla.out) (fun j u hu => hbb.cell j u (by simpa using hu)) (oneCell_c _) (by unfold maxLen; omega) (by omega) (Nat.zero_le _) ?_
      intro v' w' hown' hgrow hat
      refine ⟨v', rfl, (fun u hu => by cases Option.some.inj hu), ?_⟩
      unfold phased phased
      rw [if_neg (by simp [also, hnot 19 (by kernel_rfl)]), if_pos (by simp [also])]
      refine ⟨by simp [also], by rw [HXS.out]; simpa [yielding] using hown', ?_, (Kept.of_below hA).trans_same (Kept.of_grown hgrow)⟩
      have := Below.size hA
      rcases hat with h | h
      · exact .inl (by simpa [yielding] using h)
      · exact .inr ⟨w2.heap.size, by simpa [yielding] using h, this⟩
    | 17, ho =>
      obtain rfl := Option.some.inj ho
      rw [if_pos (wanted_none rfl)]
      have d0 : a.tmps.getD 6 undef = .pointer (some ⟨g2, o, none⟩) := dep 0 _ _ (by kernel_rfl) rfl rfl _ rfl
      have e0 : a.tmps[6]?.getD undef = .pointer (some ⟨g2, o, none⟩) := (Array.getD_eq_getD_getElem? ..).symm.trans d0
      refine wp_yields (v := .pointer (some ⟨g2, o, none⟩)) (w' := w2) ?_ (fun u hu => Option.some.inj (Option.some.inj hu)) (phased_quiet hLi (by rfl) hph)
      clear dep old ho hsz hph hnot hyes hLi
      go_simp
    | 18, ho =>
      obtain rfl := Option.some.inj ho
      rw [if_pos (wanted_none rfl)]
      have d17 : a.tmps.getD 23 undef = .pointer (some ⟨g2, o, none⟩) := dep 17 _ _ (by kernel_rfl) rfl rfl _ rfl
      have e17 : a.tmps[23]?.getD undef = .pointer (some ⟨g2, o, none⟩) := (Array.getD_eq_getD_getElem? ..).symm.trans d17
      refine wp_yields (v := .pointer (some ⟨g2, o + 1, none⟩)) (w' := w2) ?_ (fun u hu => Option.some.inj (Option.some.inj hu)) (phased_quiet hLi (by rfl) hph)
      clear dep old ho hsz hph hnot hyes hLi
      go_simp
    | 19, ho =>
      obtain rfl := Option.some.inj ho
      rw [if_pos (wanted_none rfl)]
      have d18 : a.tmps.getD 24 undef = .pointer (some ⟨g2, o + 1, none⟩) := dep 18 _ _ (by kernel_rfl) rfl rfl _ rfl
      have e18 : a.tmps[24]?.getD undef = .pointer (some ⟨g2, o + 1, none⟩) := (Array.getD_eq_getD_getElem? ..).symm.trans d18
      unfold phased phased at hph
      rw [if_neg (by rw [hLi]; decide), if_pos (hyes 16 (by kernel_rfl))] at hph
      obtain ⟨v', ev⟩ : ∃ v', a.tmps.getD 22 undef = v' := ⟨_, rfl⟩
      have hphv : WrB (w0.alloc (.cells (u8s after).toArray 60)) pv m xs (a.tmps.getD 22 undef) w2 := hph.2
      have hphw := hphv
      rw [ev] at hphw
      have ev2 : a.tmps[22]?.getD undef = v' := (Array.getD_eq_getD_getElem? ..).symm.trans ev
      have hc := (hphw.2.2.cell (p := ⟨g2, o + 1, none⟩) HG.out HNP.out).trans HC1.out
      have hf := (Kept.frozen hphw.2.2 (p := ⟨g2, o + 1, none⟩) HG.out HNP.out).trans HF1.out
      obtain ⟨A, c, rfl⟩ := own_form_n hphw.1
      refine wp_skips (w' := w2.setCell ⟨g2, o + 1, none⟩ (.slice A (m + 1) c)) ?_ (fun u hu => by cases Option.some.inj hu) ?_
      · clear dep old ho hsz hnot hyes hLi ev hph hphv hphw
        go_simp
      · unfold phased
        rw [if_pos (by simp [also])]
        exact ⟨by simp [also, hyes 16 (by kernel_rfl)], w2, hphv, congrArg (fun v => w2.setCell ⟨g2, o + 1, none⟩ v) ev.symm⟩
    | i + 20, ho => exact absurd ho (by simp)
  · intro a w2 hph hsz hdf fin keep
    unfold phased at hph
    rw [if_pos rfl] at hph
    have hph2 : WrC (w0.alloc (.cells (u8s after).toArray 60)) pv m xs g2 o (a.tmps.getD 22 undef) w2 := hph.2
    clear hph
    obtain ⟨u, hB, hw⟩ := hph2
    obtain ⟨tm, df⟩ := a
    have hx : tm = #[tm.getD 0 undef, tm.getD 1 undef, tm.getD 2 undef, tm.getD 3 undef, tm.getD 4 undef, tm.getD 5 undef, tm.getD 6 undef, tm.getD 7 undef, tm.getD 8 undef, tm.getD 9 undef, tm.getD 10 undef, tm.getD 11 undef, tm.getD 12 undef, tm.getD 13 undef, tm.getD 14 undef, tm.getD 15 undef, tm.getD 16 undef, tm.getD 17 undef, tm.getD 18 undef, tm.getD 19 undef, tm.getD 20 undef, tm.getD 21 undef, tm.getD 22 undef, tm.getD 23 undef, tm.getD 24 undef, tm.getD 25 undef, tm.getD 26 undef, tm.getD 27 undef, tm.getD 28 undef, tm.getD 29 undef, tm.getD 30 undef, tm.getD 31 undef, tm.getD 32 undef, tm.getD 33 undef, tm.getD 34 undef, tm.getD 35 undef, tm.getD 36 undef, tm.getD 37 undef, tm.getD 38 undef, tm.getD 39 undef, tm.getD 40 undef, tm.getD 41 undef, tm.getD 42 undef] := slots_of tm 43 hsz
    have k0 : tm.getD 0 undef = .pointer (some ⟨g2, o, none⟩) := keep 0 (by kernel_rfl)
    rw [k0] at hx
    have k1 : tm.getD 1 undef = .int .i64 (s : Int) := keep 1 (by kernel_rfl)
    rw [k1] at hx
    have k5 : tm.getD 5 undef = .pointer (some ⟨w0.heap.size, 0, none⟩) := keep 5 (by kernel_rfl)
    rw [k5] at hx
    obtain rfl : df = [] := hdf
    clear fin keep hsz k0 k1 k5
    generalize tm.getD 2 undef = x2 at hx
    generalize tm.getD 3 undef = x3 at hx
    generalize tm.getD 4 undef = x4 at hx
    generalize tm.getD 6 undef = x6 at hx
    generalize tm.getD 7 undef = x7 at hx
    generalize tm.getD 8 undef = x8 at hx
    generalize tm.getD 9 undef = x9 at hx
    generalize tm.getD 10 undef = x10 at hx
    generalize tm.getD 11 undef = x11 at hx
    generalize tm.getD 12 undef = x12 at hx
    generalize tm.getD 13 undef = x13 at hx
    generalize tm.getD 14 undef = x14 at hx
    generalize tm.getD 15 undef = x15 at hx
    generalize tm.getD 16 undef = x16 at hx
    generalize tm.getD 17 undef = x17 at hx
    generalize tm.getD 18 undef = x18 at hx
    generalize tm.getD 19 undef = x19 at hx
    generalize tm.getD 20 undef = x20 at hx
    generalize tm.getD 21 undef = x21 at hx
    generalize tm.getD 22 undef = x22 at hx hB hw
    generalize tm.getD 23 undef = x23 at hx
    generalize tm.getD 24 undef = x24 at hx
    generalize tm.getD 25 undef = x25 at hx
    generalize tm.getD 26 undef = x26 at hx
    generalize tm.getD 27 undef = x27 at hx
    generalize tm.getD 28 undef = x28 at hx
    generalize tm.getD 29 undef = x29 at hx
    generalize tm.getD 30 undef = x30 at hx
    generalize tm.getD 31 undef = x31 at hx
    generalize tm.getD 32 undef = x32 at hx
    generalize tm.getD 33 undef = x33 at hx
    generalize tm.getD 34 undef = x34 at hx
    generalize tm.getD 35 undef = x35 at hx
    generalize tm.getD 36 undef = x36 at hx
    generalize tm.getD 37 undef = x37 at hx
    generalize tm.getD 38 undef = x38 at hx
    generalize tm.getD 39 undef = x39 at hx
    generalize tm.getD 40 undef = x40 at hx
    generalize tm.getD 41 undef = x41 at hx
    generalize tm.getD 42 undef = x42 at hx
    subst hx
    have hmid := HM1.out _ _ hB
    rw [← hw] at hmid
    clear hB hw u
    obtain ⟨w3, hw3⟩ : ∃ w3, w3 = w2 := ⟨_, rfl⟩
    subst hw3
    have HMID := hide hmid
    have hgl3 : g2 < w3.heap.size := Nat.lt_of_lt_of_le hgl hmid.kept.size
    have HG3 := hide (show (⟨g2, o, none⟩ : Addr).block < w3.heap.size from hgl3)
    have HSB3 := hide (show sb < w3.heap.size from Nat.lt_of_lt_of_le hsl hmid.kept.size)
    have HFB3 := hide (show w0.heap.size < w3.heap.size from hmid.box.lt)
    have HC3b := hide (hmid.row.cell o (.slice (some ⟨sb, 0, none⟩) n n) (by rw [Array.getElem?_setIfInBounds, if_neg (by omega)]; exact HCS0.out))
    have HF3 := hide (Blk.range (o := 0) (l := u8s after) hmid.box (fun j hj => by simp))
    have HT3 := hide (Blk.there (o := s * 64) (n := (u8s after).toArray.size) hmid.sec (by rw [List.size_toArray, u8s_length, hla.out, blk8_size, HFL.out, HN.out]; omega))
    clear hmid
    go_wp2
    refine region_phases (ops := _) (valV [some (.pointer (some ⟨g2, o, none⟩)), some (.pointer (some ⟨g2, o, none⟩)), some (.pointer (some ⟨g2, o, none⟩)), some (.slice (some ⟨sb, 0, none⟩) n n), some (.int .i64 (s : Int)), some (.agg (u8s after).toArray), some (.pointer (some ⟨sb, s * 64, none⟩)), none]) (phased [⟨7, 5, fun _ w => ∃ u, Abv w3 u ∧ w = u.setCells sb (s * 64) (u8s after)⟩] (fun w => Abv w3 w)) (by kernel_rfl) (by kernel_rfl) (by kernel_rfl) (by kernel_rfl) (phased_ext (by kernel_rfl)) ?_ ?_ ?_
    · exact (Abv.refl _).drew
    · intro i o ho L a w2 hph hsz hLi hnot hyes old dep
      match i, ho with
      | 0, ho =>
        obtain rfl := Option.some.inj ho
        rw [if_pos (wanted_none rfl)]
        have o0 := old 0 (by kernel_rfl)
        refine wp_yields (v := .pointer (some ⟨g2, o, none⟩)) (w' := w2) ?_ (fun u hu => Option.some.inj (Option.some.inj hu)) (phased_quiet hLi (by rfl) hph)
        clear dep old ho hsz hph hnot hyes hLi
        go_simp
      | 1, ho =>
        obtain rfl := Option.some.inj ho
        rw [if_pos (wanted_none rfl)]
        have d0 : a.tmps.getD 25 undef = .pointer (some ⟨g2, o, none⟩) := dep 0 _ _ (by kernel_rfl) rfl rfl _ rfl
        have e0 : a.tmps[25]?.getD undef = .pointer (some ⟨g2, o, none⟩) := (Array.getD_eq_getD_getElem? ..).symm.trans d0
        refine wp_yields (v := .pointer (some ⟨g2, o, none⟩)) (w' := w2) ?_ (fun u hu => Option.some.inj (Option.some.inj hu)) (phased_quiet hLi (by rfl) hph)
        clear dep old ho hsz hph hnot hyes hLi
        go_simp
      | 2, ho =>
        obtain rfl := Option.some.inj ho
        rw [if_pos (wanted_none rfl)]
        have d1 : a.tmps.getD 26 undef = .pointer (some ⟨g2, o, none⟩) := dep 1 _ _ (by kernel_rfl) rfl rfl _ rfl
        have e1 : a.tmps[26]?.getD undef = .pointer (some ⟨g2, o, none⟩) := (Array.getD_eq_getD_getElem? ..).symm.trans d1
        refine wp_yields (v := .pointer (some ⟨g2, o, none⟩)) (w' := w2) ?_ (fun u hu => Option.some.inj (Option.some.inj hu)) (phased_quiet hLi (by rfl) hph)
        clear dep old ho hsz hph hnot hyes hLi
        go_simp
      | 3, ho =>
        obtain rfl := Option.some.inj ho
        rw [if_pos (wanted_none rfl)]
        have d2 : a.tmps.getD 27 undef = .pointer (some ⟨g2, o, none⟩) := dep 2 _ _ (by kernel_rfl) rfl rfl _ rfl
        have e2 : a.tmps[27]?.getD undef = .pointer (some ⟨g2, o, none⟩) := (Array.getD_eq_getD_getElem? ..).symm.trans d2
        have hA : Abv w3 w2 := phased_first (fun p hp => by simp only [List.mem_cons, List.not_mem_nil, or_false] at hp; rcases hp with rfl <;> exact hnot _ (by kernel_rfl)) hph
        have hc := (Below.cell hA (p := ⟨g2, o, none⟩) HG3.out).trans HC3b.out
        refine wp_yields (v := .slice (some ⟨sb, 0, none⟩) n n) (w' := w2) ?_ (fun u hu => Option.some.inj (Option.some.inj hu)) (phased_quiet hLi (by rfl) hph)
        clear dep old ho hsz hph hnot hyes hLi
        go_simp
      | 4, ho =>
        obtain rfl := Option.some.inj ho
        rw [if_pos (wanted_none rfl)]
        have o1 := old 1 (by kernel_rfl)
        refine wp_yields (v := .int .i64 (s : Int)) (w' := w2) ?_ (fun u hu => Option.some.inj (Option.some.inj hu)) (phased_quiet hLi (by rfl) hph)
        clear dep old ho hsz hph hnot hyes hLi
        go_simp
      | 5, ho =>
        obtain rfl := Option.some.inj ho
        rw [if_pos (wanted_none rfl)]
        have o5 := old 5 (by kernel_rfl)
        have hA : Abv w3 w2 := phased_first (fun p hp => by simp only [List.mem_cons, List.not_mem_nil, or_false] at hp; rcases hp with rfl <;> exact hnot _ (by kernel_rfl)) hph
        refine wp_load_mid 60 _ rfl w0.heap.size 0 o5 (u8s after) _ (range_below HF3.out hA HFB3.out) Try.underlying60 rfl HLA.out ⟨_, rfl, (fun u hu => Option.some.inj (Option.some.inj hu)), ?_⟩
        unfold phased phased
        rw [if_neg (by simp [also, hnot 7 (by kernel_rfl)])]
        exact hA
      | 6, ho =>
        obtain rfl := Option.some.inj ho
        rw [if_pos (wanted_none rfl)]
        have d3 : a.tmps.getD 28 undef = .slice (some ⟨sb, 0, none⟩) n n := dep 3 _ _ (by kernel_rfl) rfl rfl _ rfl
        have e3 : a.tmps[28]?.getD undef = .slice (some ⟨sb, 0, none⟩) n n := (Array.getD_eq_getD_getElem? ..).symm.trans d3
        have d4 : a.tmps.getD 29 undef = .int .i64 (s : Int) := dep 4 _ _ (by kernel_rfl) rfl rfl _ rfl
        have e4 : a.tmps[29]?.getD undef = .int .i64 (s : Int) := (Array.getD_eq_getD_getElem? ..).symm.trans d4
        refine wp_yields (v := .pointer (some ⟨sb, s * 64, none⟩)) (w' := w2) ?_ (fun u hu => Option.some.inj (Option.some.inj hu)) (phased_quiet hLi (by rfl) hph)
        clear dep old ho hsz hph hnot hyes hLi
        go_simp
      | 7, ho =>
        obtain rfl := Option.some.inj ho
        rw [if_pos (wanted_none rfl)]
        have d5 : a.tmps.getD 30 undef = .agg (u8s after).toArray := dep 5 _ _ (by kernel_rfl) rfl rfl _ rfl
        have e5 : a.tmps[30]?.getD undef = .agg (u8s after).toArray := (Array.getD_eq_getD_getElem? ..).symm.trans d5
        have d6 : a.tmps.getD 31 undef = .pointer (some ⟨sb, s * 64, none⟩) := dep 6 _ _ (by kernel_rfl) rfl rfl _ rfl
        have e6 : a.tmps[31]?.getD undef = .pointer (some ⟨sb, s * 64, none⟩) := (Array.getD_eq_getD_getElem? ..).symm.trans d6
        unfold phased at hph
        rw [if_neg (by rw [hLi]; decide)] at hph
        have hA : Abv w3 w2 := hph
        refine wp_store_mid 60 _ _ rfl sb (s * 64) (u8s after).toArray d6 d5 (there_below HT3.out hA HSB3.out) HLA2.out (all_oneCell_toArray (oneCell_u8s after)) ⟨undef, rfl, (fun u hu => by cases Option.some.inj hu), ?_⟩
        unfold phased
        rw [if_pos (by simp [also])]
        exact ⟨by simp [also, hyes 5 (by kernel_rfl)], w2, hA, rfl⟩
      | i + 8, ho => exact absurd ho (by simp)
    · intro a w2 hph hsz hdf fin keep
      unfold phased at hph
      rw [if_pos rfl] at hph
      obtain ⟨_, u, hA, hw⟩ := hph
      obtain ⟨tm, df⟩ := a
      have hx : tm = #[tm.getD 0 undef, tm.getD 1 undef, tm.getD 2 undef, tm.getD 3 undef, tm.getD 4 undef, tm.getD 5 undef, tm.getD 6 undef, tm.getD 7 undef, tm.getD 8 undef, tm.getD 9 undef, tm.getD 10 undef, tm.getD 11 undef, tm.getD 12 undef, tm.getD 13 undef, tm.getD 14 undef, tm.getD 15 undef, tm.getD 16 undef, tm.getD 17 undef, tm.getD 18 undef, tm.getD 19 undef, tm.getD 20 undef, tm.getD 21 undef, tm.getD 22 undef, tm.getD 23 undef, tm.getD 24 undef, tm.getD 25 undef, tm.getD 26 undef, tm.getD 27 undef, tm.getD 28 undef, tm.getD 29 undef, tm.getD 30 undef, tm.getD 31 undef, tm.getD 32 undef, tm.getD 33 undef, tm.getD 34 undef, tm.getD 35 undef, tm.getD 36 undef, tm.getD 37 undef, tm.getD 38 undef, tm.getD 39 undef, tm.getD 40 undef, tm.getD 41 undef, tm.getD 42 undef] := slots_of tm 43 hsz
      have k0 : tm.getD 0 undef = .pointer (some ⟨g2, o, none⟩) := keep 0 (by kernel_rfl)
      rw [k0] at hx
      obtain rfl : df = [] := hdf
      clear fin keep hsz k0
      generalize tm.getD 1 undef = y1 at hx
      generalize tm.getD 2 undef = y2 at hx
      generalize tm.getD 3 undef = y3 at hx
      generalize tm.getD 4 undef = y4 at hx
      generalize tm.getD 5 undef = y5 at hx
      generalize tm.getD 6 undef = y6 at hx
      generalize tm.getD 7 undef = y7 at hx
      generalize tm.getD 8 undef = y8 at hx
      generalize tm.getD 9 undef = y9 at hx
      generalize tm.getD 10 undef = y10 at hx
      generalize tm.getD 11 undef = y11 at hx
      generalize tm.getD 12 undef = y12 at hx
      generalize tm.getD 13 undef = y13 at hx
      generalize tm.getD 14 undef = y14 at hx
      generalize tm.getD 15 undef = y15 at hx
      generalize tm.getD 16 undef = y16 at hx
      generalize tm.getD 17 undef = y17 at hx
      generalize tm.getD 18 undef = y18 at hx
      generalize tm.getD 19 undef = y19 at hx
      generalize tm.getD 20 undef = y20 at hx
      generalize tm.getD 21 undef = y21 at hx
      generalize tm.getD 22 undef = y22 at hx
      generalize tm.getD 23 undef = y23 at hx
      generalize tm.getD 24 undef = y24 at hx
      generalize tm.getD 25 undef = y25 at hx
      generalize tm.getD 26 undef = y26 at hx
      generalize tm.getD 27 undef = y27 at hx
      generalize tm.getD 28 undef = y28 at hx
      generalize tm.getD 29 undef = y29 at hx
      generalize tm.getD 30 undef = y30 at hx
      generalize tm.getD 31 undef = y31 at hx
      generalize tm.getD 32 undef = y32 at hx
      generalize tm.getD 33 undef = y33 at hx
      generalize tm.getD 34 undef = y34 at hx
      generalize tm.getD 35 undef = y35 at hx
      generalize tm.getD 36 undef = y36 at hx
      generalize tm.getD 37 undef = y37 at hx
      generalize tm.getD 38 undef = y38 at hx
      generalize tm.getD 39 undef = y39 at hx
      generalize tm.getD 40 undef = y40 at hx
      generalize tm.getD 41 undef = y41 at hx
      generalize tm.getD 42 undef = y42 at hx
      subst hx
      have hmid := HMID.out
      have nv : ∀ k, x22.ownBlock = some k → k ≠ g2 ∧ k ≠ sb := by
        intro k hk
        rcases hmid.at_ with h | ⟨k', h, hle⟩
        · exact HNPV.out k (h.symm.trans hk)
        · rw [hk] at h; injection h with h; subst h; omega
      have h2 := wr_mid2 (s := s) (l' := (secs.set s after).flatten) hmid hA HNE.out hsl (fun k hk => (nv k hk).2) (by rw [hla.out, HFL.out, HN.out]; omega) (by rw [flat_set secs HFULL.out after s (by rw [HN.out]; exact hs), hla.out])
      rw [← hw] at h2
      have hcc2 := h2.row.cell (o + 2) (.bool armed) (by rw [Array.getElem?_setIfInBounds, if_neg (by omega)]; exact HC2.out)
      have hcc3 := h2.row.cell (o + 3) (.int .i64 (left : Int)) (by rw [Array.getElem?_setIfInBounds, if_neg (by omega)]; exact HC3.out)
      have hcf3 := h2.row.frozen (o + 3)
      have H2 := hide h2
      have HNV := hide nv
      clear h2 nv hmid hA hw u
      cases armed
      · go_wp2
        go_end0
        exact ⟨rfl, x22, H2.out.row, H2.out.sec, H2.out.own, H2.out.at_, H2.out.kept⟩
      · have hl := hleft rfl
        have hl1 : (1 : Int) ≤ (left : Int) := by omega
        have HX := hide (show (left : Int) - 1 = ((left - 1 : Nat) : Int) by omega)
        clear hleft
        go_wp2
        go_end0
        have h3 := wr_mid3 (x := .int .i64 ((left : Int) - 1)) H2.out HNE.out (fun k hk => (HNV.out k hk).1)
        rw [HX.out] at h3
        rw [HX.out]
        exact ⟨rfl, x22, h3.1, h3.2.1, h3.2.2.1, H2.out.at_, h3.2.2.2⟩
end Go.Proofs.Ythlclhfepnmaeaa
