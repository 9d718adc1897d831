/-
  Contract: a region behind a crash.
-/
import Derived.Test.YthlclhfepnmaeaaDIter
import Derived.Test.YthlclhfepnmaeaaDOps2
import Derived.Test.YthlclhfepnmaeaaPhaseIn
namespace Go.Proofs.Ythlclhfepnmaeaa
open Go.RowKit Go.Shelf

attribute [local go_sem] Oper.semAt_some

/-- Sectors, those changes taken back. -/
def backTo {n : Nat} (l : List Sec) (pre : List (NC n)) : List Sec := pre.foldl (fun l x => l.set x.2.1.place x.2.1.before) l
theorem backTo_snoc {n : Nat} (l : List Sec) (pre : List (NC n)) (x : NC n) : backTo l (pre ++ [x]) = (backTo l pre).set x.2.1.place x.2.1.before := by simp [backTo]
theorem backTo_length {n : Nat} (pre : List (NC n)) : ∀ l : List Sec, (backTo l pre).length = l.length := by
  induction pre with
  | nil => intro l; rfl
  | cons x pre ih => intro l; show (backTo (l.set _ _) pre).length = _; rw [ih, List.length_set]
theorem backTo_full {n : Nat} (pre : List (NC n)) : ∀ l : List Sec, (∀ s ∈ l, s.length = 64) → ∀ s ∈ backTo l pre, s.length = 64 := by
  induction pre with
  | nil => intro l h; exact h
  | cons x pre ih =>
    intro l h
    refine ih _ (fun s hs => ?_)
    rcases List.mem_or_eq_of_mem_set hs with h1 | rfl
    · exact h s h1
    · exact x.2.2.2.1
theorem backTo_backs {n : Nat} (cl : List (FC n)) (l : List Sec) : backTo l (backs cl) = undo (cl.map (·.1)) l := by
  unfold backTo backs undo
  rw [List.foldl_reverse, List.foldr_map, List.foldr_map]
  have : ∀ (cl : List (FC n)) (k : Nat), List.foldr (fun (x : FC n × Nat) (y : List Sec) => y.set x.1.1.place x.1.1.before) l (cl.zipIdx k) = List.foldr (fun (x : FC n) (y : List Sec) => y.set x.1.place x.1.before) l cl := by
    intro cl
    induction cl with
    | nil => intro k; rfl
    | cons c cl ih => intro k; rw [List.zipIdx_cons, List.foldr_cons, List.foldr_cons, ih]
  exact this cl 0
theorem ch_before (c : Chg) : ∀ j, j < (u8s c.before).length → (ccells c).toArray[1 + j]? = (u8s c.before)[j]? := by
  intro j hj
  rw [List.getElem?_toArray, Nat.add_comm]
  show (u8s c.before ++ u8s c.after)[j]? = _
  rw [List.getElem?_append_left hj]
theorem ch_after (c : Chg) (hb : c.before.length = 64) : ∀ j, j < (u8s c.after).length → (ccells c).toArray[65 + j]? = (u8s c.after)[j]? := by
  intro j hj
  rw [List.getElem?_toArray, show 65 + j = (64 + j) + 1 by omega]
  show (u8s c.before ++ u8s c.after)[64 + j]? = _
  rw [List.getElem?_append_right (by rw [u8s_length, hb]; omega), u8s_length, hb]
  congr 1; omega
/-- A change, whole, in a new block. -/
theorem new_change (W : World) (z : Array Value) (c : Chg) (hz : z.size = 129) (hb : c.before.length = 64) (ha : c.after.length = 64) :
    Blk ((W.alloc (.cells z 64)).setCells W.heap.size 0 (ccells c)) W.heap.size 64 (ccells c).toArray ∧ Kept (fun _ => False) W ((W.alloc (.cells z 64)).setCells W.heap.size 0 (ccells c)) := by
  have hl := ccells_length c hb ha
  refine ⟨?_, ?_⟩
  · have := Blk.setCells (ccells c) 0 (W.alloc (.cells z 64)) z (Blk.new_ W z 64 rfl) (by omega)
    rw [List.take_zero, List.nil_append, List.drop_eq_nil_of_le (by simp; omega), List.append_nil] at this
    exact this
  · exact (Kept.alloc _ W _).trans (Kept.setCells _ W.heap.size 0 (ccells c)) (fun k hk => .inr (Nat.le_of_eq hk.symm))
theorem sec_set {W u : World} {sb place : Nat} {l : List Sec} {b : Sec} (h : Blk W sb 60 (blk8 l.flatten)) (hA : Abv W u) (hfull : ∀ s ∈ l, s.length = 64) (hp : place < l.length) (hb : b.length = 64) :
    Blk (u.setCells sb (place * 64) (u8s b)) sb 60 (blk8 (l.set place b).flatten) := by
  have := Blk.setCells (u8s b) (place * 64) u (blk8 l.flatten) (h.below hA) (by rw [u8s_length, hb, blk8_size, flat_length l hfull]; omega)
  rw [flat_set l hfull b place hp]
  unfold blk8 at this ⊢
  rw [u8s_length, hb] at this
  simpa [u8s_append, u8s_take, u8s_drop] using this
set_option maxRecDepth 10000 in
theorem zero_ch : ∃ z : Array Value, z.size = 129 ∧ ∀ w, (zeroValue 64).run Try.prog w = .ok (.agg z) w := by
  obtain ⟨i, hi, hz, _⟩ := info_parts infoCh
  refine ⟨(ccells ⟨0, zsec, zsec⟩).toArray, of_decide_eq_true rfl, fun w => ?_⟩
  generalize (ccells ⟨0, zsec, zsec⟩).toArray = z at hz ⊢
  simp [zeroValue, typeInfo, hi, hz]
/-- The mask's bit for write i. -/
def bitOf (mask : Nat) (i : Nat) : Bool := mask.testBit (i % 64)
theorem bit_at (mask k : Nat) : bits .and .u64 ((mask : Int) / 2 ^ (k % 64)) 1 = if bitOf mask k then 1 else 0 := by
  have e : (mask : Int) / 2 ^ (k % 64) = ((mask / 2 ^ (k % 64) : Nat) : Int) := by
    rw [Int.natCast_ediv, Int.natCast_pow]; rfl
  have e2 : bitOf mask k = decide (mask / 2 ^ (k % 64) % 2 = 1) := Nat.testBit_eq_decide_div_mod_eq
  rw [e, e2]
  generalize mask / 2 ^ (k % 64) = q
  have h1 : bits .and .u64 (q : Int) 1 = IntKind.u64.wrap (((BitVec.ofInt 64 (q : Int) &&& BitVec.ofInt 64 1).toNat : Int)) := rfl
  have h2 : (BitVec.ofInt 64 (q : Int) &&& BitVec.ofInt 64 1).toNat = q % 2 := by
    rw [BitVec.toNat_and, BitVec.ofInt_natCast, BitVec.toNat_ofNat, show (BitVec.ofInt 64 1).toNat = 1 by decide, Nat.and_one_is_mod]
    omega
  rw [h1, h2]
  rcases Nat.mod_two_eq_zero_or_one q with h | h <;> rw [h] <;> rfl
/-- The row of regions on the way. -/
def PB (W : World) (g2 : Nat) (cs : Array Value) (w : World) : Prop := Blk w g2 56 cs ∧ Kept (fun k => k = g2) W w
/-- What a region's crash leaves. -/
def CrPost (w0 : World) (g2 o sb : Nat) (cs : Array Value) (l : List Sec) (e : Ending) (w' : World) : Prop :=
  e = .returned (.tuple #[]) ∧ Blk w' g2 56 (((cs.setIfInBounds (o + 1) (.slice none 0 0)).setIfInBounds (o + 2) (.bool false)).setIfInBounds (o + 3) (.int .i64 0)) ∧ Blk w' sb 60 (blk8 l.flatten) ∧ Kept (fun k => k = g2 ∨ k = sb) w0 w'

set_option maxRecDepth 100000 in
set_option maxHeartbeats 8000000 in
theorem crash_in (F : Fence) (n0 : Nat) (hF : F.fn 20) (hF1 : F.fn 21) (hF2 : F.fn 22) (hro : F.round = none) (hn0 : 4 ≤ n0)
    (w0 : World) (g2 o sb n mask p : Nat) (cs : Array Value) (r : Rg) (A : Option Addr) (len cap : Nat) (cl : List (FC n)) (hb2 : Blk w0 g2 56 cs) (c0 : cs[o]? = some (.slice (some ⟨sb, 0, none⟩) n n)) (c1 : cs[o + 1]? = some (.slice A len cap)) (c3 : o + 3 < cs.size)
    (hsb : Blk w0 sb 60 (blk8 r.secs.flatten)) (hfit : r.Fit n) (hcl : cl.map (·.1) = r.pend) (hlen : r.ws.length = len) (hlen2 : len ≤ 1000000) (hA0 : 0 < len → A = some ⟨p, 0, none⟩ ∧ p < w0.heap.size) (hps : p < w0.heap.size + 2) (hp1 : p ≠ sb) (hp2 : p ≠ g2) (hne : g2 ≠ sb)
    (hcells : ∀ (j : Nat) (h : j < cl.length), w0.rangeAt p (j * 129) (ccells cl[j].1)) :
    CallsIn F n0 Try.prog 20 #[.pointer (some ⟨g2, o, none⟩), .int .u64 (mask : Int)] w0 (CrPost w0 g2 o sb cs (r.crash (bitOf mask)).secs) := by
  have h1 : 1 ≤ n0 := by omega
  obtain ⟨zch, hzs, hzv⟩ := zero_ch
  have HZS := hide hzs
  clear hzs
  have hcl_len : cl.length = len := by have h := congrArg List.length hcl; rw [List.length_map] at h; rw [h, ← hlen]; exact chain_length r.ws r.base
  have hgl := hb2.lt
  have hsl := hsb.lt
  obtain ⟨W0, hW0⟩ : ∃ W0, W0 = (w0.alloc (.cells #[.pointer (some ⟨g2, o, none⟩)] 57)).alloc (.cells #[.slice A len cap] 54) := ⟨_, rfl⟩
  have hsz : W0.heap.size = w0.heap.size + 2 := by rw [hW0]; simp
  have hB0 : Below w0.heap.size w0 W0 := by rw [hW0]; exact ((Below.refl _ w0).alloc (Nat.le_refl _) _).alloc (by simp) _
  have bBox : Blk W0 w0.heap.size 57 #[.pointer (some ⟨g2, o, none⟩)] := by rw [hW0]; exact (Blk.new_ w0 _ _ rfl).alloc _
  have bSl : Blk W0 (w0.heap.size + 1) 54 #[.slice A len cap] := by rw [hW0]; exact Blk.new_ _ _ _ (by simp)
  have bRow := hb2.below hB0
  have bSec := hsb.below hB0
  have hc1 := (hb2.alloc (.cells #[.pointer (some ⟨g2, o, none⟩)] 57)).cell _ _ c1
  have hcellsW : ∀ (j : Nat) (h : j < cl.length), W0.rangeAt p (j * 129) (ccells cl[j].1) := fun j h i v hv => (hB0.cell (p := ⟨p, j * 129 + i, none⟩) (hA0 (by omega)).2).trans (hcells j h i v hv)
  have HW0 := hide hW0
  have HPEND := hide hcl
  have HLEN := hide hlen
  have HCLL := hide hcl_len
  have HSZ := hide hsz
  clear hsz hcl hlen hcl_len hb2 hcells
  refine callsIn_of_wp_marks Try.func20 rfl hF ?_ hro
  simp only [Try.ntmps20, List.size_toArray, List.length_cons, List.length_nil, Nat.reduceAdd, Nat.reduceSub, Array.replicate_succ, Array.replicate_zero, List.push_toArray, List.append_toArray, List.nil_append, List.cons_append]
  gi_wp2_with (gi_at_call 21; refine (back_in F (n0 - 1) hF1 hro _ _ _ _).mono ?_; rintro e w' ⟨rfl, rfl⟩)
  rw [← HW0.out]
  clear hc1 hW0
  refine wpIn_rangeFunc_ownH hro h1 (gf := 22) (lb := #[.pointer (some ⟨w0.heap.size + 1, 0, none⟩)]) rfl hF2 (enters_of Try.func22 (by kernel_rfl) rfl)
    (back_stops F (n0 - 1) hF2 hro (by omega) (w0.heap.size + 1) p len cap A cl HCLL.out (fun h => (hA0 h).1) hlen2 W0 (by rw [HSZ.out]; omega) (fun _ => by rw [HSZ.out]; exact hps) (bSl.cell 0 _ rfl) hcellsW) Same.trans (sameK_b (by rintro k (rfl | rfl) <;> rw [HSZ.out] <;> omega)) (Below.refl _ _) (fun _ => rfl)
    (fun pre W => Blk W sb 60 (blk8 (backTo r.secs pre).flatten) ∧ Kept (fun k => k = sb) W0 W)
    (fun _ _ _ => False)
    (fun s X Y row hs hg hr => ⟨(hg.block sb hs.1.lt (fun e => by have := (hr sb e.symm).1; rw [HSZ.out] at this; omega)).trans hs.1, hs.2.trans (Kept.of_grown hg) (fun k hk => .inr (hr k hk).1)⟩)
    (fun _ _ _ _ _ hs _ _ => hs)
    ⟨bSec, Kept.refl _ _⟩
    (fun x a' W => ∃ Bx, W0.heap.size ≤ Bx ∧ Blk W Bx 64 (ccells x.2.1).toArray ∧ a' = { tmps := #[.pointer (some ⟨g2, o, none⟩), .int .u64 (mask : Int), .pointer (some ⟨w0.heap.size, 0, none⟩), undef, undef, .pointer (some ⟨Bx, 0, none⟩), undef, undef, .pointer (some ⟨g2, o, none⟩), .pointer (some ⟨g2, o, none⟩), .pointer (some ⟨g2, o + 1, none⟩), .slice A len cap, .func (.func 22) #[] #[.pointer (some ⟨w0.heap.size + 1, 0, none⟩)], .int .i64 (x.1 : Int), .agg (ccells x.2.1).toArray, undef, undef, undef, undef, undef, undef, undef, undef, undef, undef, undef, undef, undef, undef, undef, undef, undef, undef, undef, undef, undef, undef, undef, undef, undef, undef, undef, undef, undef, undef, undef, undef, undef, undef, undef, undef, undef, undef, undef, undef, undef, undef, undef, undef], defers := [] })
    (fun x a' _ X Y row hs hg hr => by
      obtain ⟨Bx, hle, hbx, ha⟩ := hs
      refine ⟨Bx, hle, (hg.block Bx hbx.lt (fun e => ?_)).trans hbx, ha⟩
      obtain ⟨_, ob, hob, hoc⟩ := hr Bx e.symm
      unfold Blk at hbx
      rw [hbx] at hob
      injection hob with hob
      subst hob
      cases hoc) ?assign ?body ?done ?stop
  case stop =>
    rintro D c pre W _ _ h _
    exact h.elim
  case assign =>
    intro l pre x W K hi hK
    unfold encB
    obtain ⟨hcp, hcb, hca⟩ := x.2.2
    have XI := hide (show (Try.prog.info? 64).map (·.size) = some (ccells x.2.1).toArray.size by rw [List.size_toArray]; exact chInfo _ hcb hca)
    have XL := hide (show (ccells x.2.1).toArray.size = 129 by rw [List.size_toArray]; exact ccells_length _ hcb hca)
    gi_wp2_with ((with_reducible refine wpListIn_store_mid rfl 64 (.tmp 5) (.tmp 14) rfl W.heap.size 0 (ccells x.2.1).toArray rfl rfl ?_ ?_ ?_ ?_); exact (Blk.new_ W zch _ rfl).there (by rw [XL.out, HZS.out]; exact Nat.le_refl _); exact XI.out; exact all_oneCell_toArray (oneCell_c _))
    have hnew := new_change W zch x.2.1 HZS.out hcb hca
    refine hK _ _ ?_ ?_ ?_ ⟨W.heap.size, hi.2.size, hnew.1, rfl⟩
    · exact ⟨hnew.2.size, fun k ob _ hk _ => (hnew.2.block k (Array.getElem?_eq_some_iff.1 hk).1 (fun h => h)).trans hk⟩
    · rintro k (rfl | rfl)
      · exact hnew.2.block _ (by have := hi.2.size; rw [HSZ.out] at this; omega) (fun h => h)
      · exact hnew.2.block _ (by have := hi.2.size; rw [HSZ.out] at this; omega) (fun h => h)
    · exact ⟨hnew.2.blk hi.1 (fun h => h), hi.2.trans hnew.2 (fun _ h => h.elim)⟩
  case body =>
    rintro l pre x a' W hl ⟨lr, hlr⟩ ⟨WSec, hkept⟩ ⟨Bx, hBx, WC, rfl⟩ hlt
    obtain ⟨i0, ⟨⟨place, before, after⟩, hcp, hcb, hca⟩⟩ := x
    have hcp' : place < n := hcp
    replace hcb : before.length = 64 := hcb
    replace hca : after.length = 64 := hca
    have WBox := hkept.blk bBox (fun e => by have e' : w0.heap.size = sb := e; omega)
    have WRow := hkept.blk bRow hne
    have hfl : (backTo r.secs pre).flatten.length = 64 * n := by rw [flat_length _ (backTo_full pre _ hfit.secs_full), backTo_length, hfit.secs_length]
    have XB := hide (WBox.cell 0 _ rfl)
    have XB_lt := hide (show (⟨w0.heap.size, 0, none⟩ : Addr).block < W.heap.size from WBox.lt)
    have XS := hide (WRow.cell o _ c0)
    have XS_lt := hide (show (⟨g2, o, none⟩ : Addr).block < W.heap.size from WRow.lt)
    have XP := hide (WC.cell 0 (.int .i64 (place : Int)) rfl)
    have XP_lt := hide (show (⟨Bx, 0, none⟩ : Addr).block < W.heap.size from WC.lt)
    have XR := hide (Blk.range (o := 1) (l := u8s before) WC (ch_before ⟨place, before, after⟩))
    have XI := hide (secInfo before hcb)
    have XI2 := hide (show (Try.prog.info? 60).map (·.size) = some (u8s before).toArray.size by rw [List.size_toArray]; exact secInfo before hcb)
    have XT := hide (Blk.there (o := place * 64) (n := (u8s before).toArray.size) WSec (by rw [List.size_toArray, u8s_length, hcb, blk8_size, hfl]; omega))
    have XT_lt := hide (show sb < W.heap.size from WSec.lt)
    have hp0 : (0 : Int) ≤ (place : Int) := by omega
    have hp1 : (place : Int) < (n : Int) := by omega
    have HSec := hide WSec
    have HKept := hide hkept
    have HFL := hide hfl
    clear WSec hkept WBox WRow WC hfl
    gi_wp2
    refine region_phasesIn (ops := _) (valV [some (.pointer (some ⟨g2, o, none⟩)), some (.pointer (some ⟨g2, o, none⟩)), some (.pointer (some ⟨g2, o, none⟩)), some (.slice (some ⟨sb, 0, none⟩) n n), some (.pointer (some ⟨Bx, 0, none⟩)), some (.int .i64 (place : Int)), some (.pointer (some ⟨Bx, 1, none⟩)), some (.agg (u8s before).toArray), some (.pointer (some ⟨sb, place * 64, none⟩)), none]) (phased [⟨9, 8, fun _ w => ∃ u, Abv W u ∧ w = u.setCells sb (place * 64) (u8s before)⟩] (fun w => Abv W w)) (by kernel_rfl) (by kernel_rfl) (by kernel_rfl) (by kernel_rfl) (by kernel_rfl) (phased_ext (by kernel_rfl)) ?_ ?_ ?_
    · exact (Abv.refl _).drew
    · intro i o ho L a w2 hph hsz hLi hnot hyes old dep
      match i, ho with
      | 0, ho =>
        obtain rfl := Option.some.inj ho
        rw [if_pos (wanted_none rfl)]
        have o2 := old 2 (by kernel_rfl)
        have hA : Abv W w2 := phased_first (fun p hp => by simp only [List.mem_cons, List.not_mem_nil, or_false] at hp; rcases hp with rfl; exact hnot _ (by kernel_rfl)) hph
        have hc := (Below.cell hA (p := ⟨w0.heap.size, 0, none⟩) XB_lt.out).trans XB.out
        refine wp_yields (v := .pointer (some ⟨g2, o, none⟩)) (w' := w2) ?_ (fun u hu => Option.some.inj (Option.some.inj hu)) (phased_quiet hLi (by rfl) hph)
        clear dep old ho hsz hph hnot hyes hLi
        go_simp
      | 1, ho =>
        obtain rfl := Option.some.inj ho
        rw [if_pos (wanted_none rfl)]
        have d0 : a.tmps.getD 15 undef = .pointer (some ⟨g2, o, none⟩) := dep 0 _ _ (by kernel_rfl) rfl rfl _ rfl
        have e0 : a.tmps[15]?.getD undef = .pointer (some ⟨g2, o, none⟩) := (Array.getD_eq_getD_getElem? ..).symm.trans d0
        refine wp_yields (v := .pointer (some ⟨g2, o, none⟩)) (w' := w2) ?_ (fun u hu => Option.some.inj (Option.some.inj hu)) (phased_quiet hLi (by rfl) hph)
        clear dep old ho hsz hph hnot hyes hLi
        go_simp
      | 2, ho =>
        obtain rfl := Option.some.inj ho
        rw [if_pos (wanted_none rfl)]
        have d1 : a.tmps.getD 16 undef = .pointer (some ⟨g2, o, none⟩) := dep 1 _ _ (by kernel_rfl) rfl rfl _ rfl
        have e1 : a.tmps[16]?.getD undef = .pointer (some ⟨g2, o, none⟩) := (Array.getD_eq_getD_getElem? ..).symm.trans d1
        refine wp_yields (v := .pointer (some ⟨g2, o, none⟩)) (w' := w2) ?_ (fun u hu => Option.some.inj (Option.some.inj hu)) (phased_quiet hLi (by rfl) hph)
        clear dep old ho hsz hph hnot hyes hLi
        go_simp
      | 3, ho =>
        obtain rfl := Option.some.inj ho
        rw [if_pos (wanted_none rfl)]
        have d2 : a.tmps.getD 17 undef = .pointer (some ⟨g2, o, none⟩) := dep 2 _ _ (by kernel_rfl) rfl rfl _ rfl
        have e2 : a.tmps[17]?.getD undef = .pointer (some ⟨g2, o, none⟩) := (Array.getD_eq_getD_getElem? ..).symm.trans d2
        have hA : Abv W w2 := phased_first (fun p hp => by simp only [List.mem_cons, List.not_mem_nil, or_false] at hp; rcases hp with rfl; exact hnot _ (by kernel_rfl)) hph
        have hc := (Below.cell hA (p := ⟨g2, o, none⟩) XS_lt.out).trans XS.out
        refine wp_yields (v := .slice (some ⟨sb, 0, none⟩) n n) (w' := w2) ?_ (fun u hu => Option.some.inj (Option.some.inj hu)) (phased_quiet hLi (by rfl) hph)
        clear dep old ho hsz hph hnot hyes hLi
        go_simp
      | 4, ho =>
        obtain rfl := Option.some.inj ho
        rw [if_pos (wanted_none rfl)]
        have o5 := old 5 (by kernel_rfl)
        refine wp_yields (v := .pointer (some ⟨Bx, 0, none⟩)) (w' := w2) ?_ (fun u hu => Option.some.inj (Option.some.inj hu)) (phased_quiet hLi (by rfl) hph)
        clear dep old ho hsz hph hnot hyes hLi
        go_simp
      | 5, ho =>
        obtain rfl := Option.some.inj ho
        rw [if_pos (wanted_none rfl)]
        have d4 : a.tmps.getD 19 undef = .pointer (some ⟨Bx, 0, none⟩) := dep 4 _ _ (by kernel_rfl) rfl rfl _ rfl
        have e4 : a.tmps[19]?.getD undef = .pointer (some ⟨Bx, 0, none⟩) := (Array.getD_eq_getD_getElem? ..).symm.trans d4
        have hA : Abv W w2 := phased_first (fun p hp => by simp only [List.mem_cons, List.not_mem_nil, or_false] at hp; rcases hp with rfl; exact hnot _ (by kernel_rfl)) hph
        have hc := (Below.cell hA (p := ⟨Bx, 0, none⟩) XP_lt.out).trans XP.out
        refine wp_yields (v := .int .i64 (place : Int)) (w' := w2) ?_ (fun u hu => Option.some.inj (Option.some.inj hu)) (phased_quiet hLi (by rfl) hph)
        clear dep old ho hsz hph hnot hyes hLi
        go_simp
      | 6, ho =>
        obtain rfl := Option.some.inj ho
        rw [if_pos (wanted_none rfl)]
        have o5 := old 5 (by kernel_rfl)
        refine wp_yields (v := .pointer (some ⟨Bx, 1, none⟩)) (w' := w2) ?_ (fun u hu => Option.some.inj (Option.some.inj hu)) (phased_quiet hLi (by rfl) hph)
        clear dep old ho hsz hph hnot hyes hLi
        go_simp
      | 7, ho =>
        obtain rfl := Option.some.inj ho
        rw [if_pos (wanted_none rfl)]
        have d6 : a.tmps.getD 21 undef = .pointer (some ⟨Bx, 1, none⟩) := dep 6 _ _ (by kernel_rfl) rfl rfl _ rfl
        have e6 : a.tmps[21]?.getD undef = .pointer (some ⟨Bx, 1, none⟩) := (Array.getD_eq_getD_getElem? ..).symm.trans d6
        have hA : Abv W w2 := phased_first (fun p hp => by simp only [List.mem_cons, List.not_mem_nil, or_false] at hp; rcases hp with rfl; exact hnot _ (by kernel_rfl)) hph
        refine wp_load_mid 60 _ rfl Bx 1 d6 (u8s before) _ (range_below XR.out hA XP_lt.out) Try.underlying60 rfl XI.out ⟨_, rfl, (fun u hu => Option.some.inj (Option.some.inj hu)), phased_quiet hLi (by rfl) hph⟩
      | 8, ho =>
        obtain rfl := Option.some.inj ho
        rw [if_pos (wanted_none rfl)]
        have d3 : a.tmps.getD 18 undef = .slice (some ⟨sb, 0, none⟩) n n := dep 3 _ _ (by kernel_rfl) rfl rfl _ rfl
        have e3 : a.tmps[18]?.getD undef = .slice (some ⟨sb, 0, none⟩) n n := (Array.getD_eq_getD_getElem? ..).symm.trans d3
        have d5 : a.tmps.getD 20 undef = .int .i64 (place : Int) := dep 5 _ _ (by kernel_rfl) rfl rfl _ rfl
        have e5 : a.tmps[20]?.getD undef = .int .i64 (place : Int) := (Array.getD_eq_getD_getElem? ..).symm.trans d5
        refine wp_yields (v := .pointer (some ⟨sb, place * 64, none⟩)) (w' := w2) ?_ (fun u hu => Option.some.inj (Option.some.inj hu)) (phased_quiet hLi (by rfl) hph)
        clear dep old ho hsz hph hnot hyes hLi
        go_simp
      | 9, ho =>
        obtain rfl := Option.some.inj ho
        rw [if_pos (wanted_none rfl)]
        have d7 : a.tmps.getD 22 undef = .agg (u8s before).toArray := dep 7 _ _ (by kernel_rfl) rfl rfl _ rfl
        have e7 : a.tmps[22]?.getD undef = .agg (u8s before).toArray := (Array.getD_eq_getD_getElem? ..).symm.trans d7
        have d8 : a.tmps.getD 23 undef = .pointer (some ⟨sb, place * 64, none⟩) := dep 8 _ _ (by kernel_rfl) rfl rfl _ rfl
        have e8 : a.tmps[23]?.getD undef = .pointer (some ⟨sb, place * 64, none⟩) := (Array.getD_eq_getD_getElem? ..).symm.trans d8
        unfold phased at hph
        rw [if_neg (by rw [hLi]; decide)] at hph
        have hA : Abv W w2 := hph
        refine wp_store_mid 60 _ _ rfl sb (place * 64) (u8s before).toArray d8 d7 (there_below XT.out hA XT_lt.out) XI2.out (all_oneCell_toArray (oneCell_u8s before)) ⟨undef, rfl, (fun u hu => by cases Option.some.inj hu), ?_⟩
        unfold phased
        rw [if_pos (by simp [also])]
        exact ⟨by simp [also, hyes 8 (by kernel_rfl)], w2, hA, rfl⟩
      | i + 10, ho => exact absurd ho (by simp)
    · intro a w2 hph _ _ _ _
      unfold phased at hph
      rw [if_pos rfl] at hph
      obtain ⟨_, u, hA, rfl⟩ := hph
      have hk : Kept (fun k => k = sb) W (u.setCells sb (place * 64) (u8s before)) := (Kept.of_below hA).trans_same (Kept.setCells u sb (place * 64) (u8s before))
      gi_wp2
      refine ⟨⟨hk.size, fun k ob _ hk' hoc => (hk.block k (Array.getElem?_eq_some_iff.1 hk').1 (fun e => ?_)).trans hk'⟩, ?_, ?_, HKept.out.trans_same hk⟩
      · subst e
        have := HSec.out
        unfold Blk at this
        rw [this] at hk'
        injection hk' with hk'
        subst hk'
        cases hoc
      · rintro k (rfl | rfl)
        · exact hk.block _ (by have := HKept.out.size; rw [HSZ.out] at this; omega) (fun e => by have e' : w0.heap.size + 1 = sb := e; omega)
        · exact hk.block _ (by have := HKept.out.size; rw [HSZ.out] at this; omega) hp1
      · rw [backTo_snoc]
        exact sec_set HSec.out hA (backTo_full pre _ hfit.secs_full) (by rw [backTo_length, hfit.secs_length]; exact hcp') hcb
  case done =>
    rintro D ys W1 hD rfl ⟨hsec, hkept⟩ hK
    rw [backTo_backs, HPEND.out] at hsec
    have hbase : undo r.pend r.secs = r.base := undo_chain r.ws r.base (fun x hx => by rw [hfit.size]; exact (hfit.wfull x hx).1)
    rw [hbase] at hsec
    have WBox := hkept.blk bBox (fun e => by have e' : w0.heap.size = sb := e; omega)
    have WRow := hkept.blk bRow hne
    have hx2 := WBox.cell 0 _ rfl
    have hx3 := WRow.cell _ _ c1
    have HSec := hide hsec
    have HKept := hide hkept
    have HBox := hide WBox
    have HRow := hide WRow
    have HKD := hide hK
    clear hsec hkept WBox WRow hK hbase
    gi_wp2
    gi_loopw [29] (fun i wr => ∃ k : Nat, k ≤ len ∧ i = .int .i64 k ∧ Blk wr sb 60 (blk8 (put r.base (kept (bitOf mask) (r.ws.take k))).flatten) ∧ Kept (fun k => k = sb) W1 wr) (fun i _ => len - (intOf i).toNat)
    case atStart => exact ⟨0, Nat.zero_le _, rfl, by simpa [kept_nil, put_nil] using HSec.out, Kept.refl _ _⟩
    case round =>
      obtain ⟨k, hk, rfl, VSec, hkv⟩ := hrel
      by_cases hlt : k < len
      · have hkc : k < cl.length := by rw [HCLL.out]; exact hlt
        have hkw : k < r.ws.length := by rw [HLEN.out]; exact hlt
        obtain ⟨rfl, hpl⟩ := hA0 (by omega)
        have hget : cl[k].1.place = r.ws[k].1 ∧ cl[k].1.after = r.ws[k].2 := by
          have hpk : k < r.pend.length := by show k < (chain r.base r.ws).length; rw [chain_length]; exact hkw
          have h2 : r.pend[k] = cl[k].1 := by
            have h3 : (cl.map (·.1))[k]? = r.pend[k]? := by rw [HPEND.out]
            rw [List.getElem?_map, List.getElem?_eq_getElem hkc, List.getElem?_eq_getElem hpk] at h3
            exact (Option.some.inj h3).symm
          have h4 := chain_get r.ws r.base k hpk hkw
          rw [← h2]; exact h4
        have hrg : wr.rangeAt p (k * 129) (ccells cl[k].1) := fun j v hv => (hkv.cell (p := ⟨p, k * 129 + j, none⟩) (by have := HKept.out.size; rw [HSZ.out] at this; show p < _; omega) hp1).trans ((HKept.out.cell (p := ⟨p, k * 129 + j, none⟩) (by rw [HSZ.out]; exact hps) hp1).trans (hcellsW k hkc j v hv))
        obtain ⟨cx, hcx⟩ : ∃ cx, cl[k] = cx := ⟨_, rfl⟩
        rw [hcx] at hget hrg
        clear hcx
        obtain ⟨⟨place, before, after⟩, hcp, hcb, hca⟩ := cx
        replace hcb : before.length = 64 := hcb
        replace hca : after.length = 64 := hca
        have hcp' : place < n := hcp
        have HGET := hide (show r.ws[k] = (place, after) from Prod.ext hget.1.symm hget.2.symm)
        have HRG := hide hrg
        have XI3 := hide (show (Try.prog.info? 64).map (·.size) = some (ccells ⟨place, before, after⟩).toArray.size by rw [List.size_toArray]; exact chInfo ⟨place, before, after⟩ hcb hca)
        have XI4 := hide (chInfo ⟨place, before, after⟩ hcb hca)
        have XL := hide (show (ccells ⟨place, before, after⟩).toArray.size = 129 by rw [List.size_toArray]; exact ccells_length _ hcb hca)
        have hk0 : (0 : Int) ≤ (k : Int) := by omega
        have hk1 : (k : Int) < (len : Int) := by omega
        have htake : kept (bitOf mask) (r.ws.take (k + 1)) = kept (bitOf mask) (r.ws.take k) ++ (if bitOf mask k then [(place, after)] else []) := by
          rw [take_next _ _ hkw, kept_snoc, HGET.out, List.length_take, Nat.min_eq_left (by omega)]
        have HT := hide htake
        have hbits := bit_at mask k
        have hnew := new_change wr zch ⟨place, before, after⟩ HZS.out hcb hca
        have HNEW := hide hnew
        have HV := hide VSec
        have HKV := hide hkv
        clear hrg hget htake hnew hkv VSec
        cases hbit : bitOf mask k
        · rw [hbit] at hbits
          simp only [Bool.false_eq_true, if_false] at hbits
          have HBIT := hide hbit
          clear hbit
          gi_wp2_with (first
          | ((with_reducible refine wpListIn_load_mid rfl 64 (.tmp 32) rfl p (k * 129) rfl (ccells ⟨place, before, after⟩) _ ?_ Try.underlying64 ?_ ?_ ?_); exact HRG.out; rfl; exact XI4.out)
          | ((with_reducible refine wpListIn_store_mid rfl 64 (.tmp 7) (.tmp 33) rfl wr.heap.size 0 (ccells ⟨place, before, after⟩).toArray rfl rfl ?_ ?_ ?_ ?_); exact (Blk.new_ wr zch _ rfl).there (by rw [XL.out, HZS.out]; exact Nat.le_refl _); exact XI3.out; exact all_oneCell_toArray (oneCell_c _)))
          go_roundw
          case rel =>
            have e := HT.out
            rw [HBIT.out] at e
            simp only [Bool.false_eq_true, if_false, List.append_nil] at e
            exact ⟨k + 1, by omega, by go_num, by rw [e]; exact HNEW.out.2.blk HV.out (fun h => h), HKV.out.trans HNEW.out.2 (fun _ h => h.elim)⟩
          case measure => simp [intOf]; omega
        · rw [hbit] at hbits
          simp only [if_true] at hbits
          have HBIT := hide hbit
          clear hbit
          have hVSec := HNEW.out.2.blk HV.out (fun h => h)
          have hVK : Kept (fun k => k = sb) W1 _ := HKV.out.trans HNEW.out.2 (fun _ h => h.elim)
          have hVC := HNEW.out.1
          obtain ⟨V, hV⟩ : ∃ V, V = (wr.alloc (.cells zch 64)).setCells wr.heap.size 0 (ccells ⟨place, before, after⟩) := ⟨_, rfl⟩
          rw [← hV] at hVSec hVK hVC
          have VSec := hVSec
          have VC := hVC
          have VBox := hVK.blk HBox.out (fun e => by have e' : w0.heap.size = sb := e; omega)
          have VRow := hVK.blk HRow.out hne
          have hfull : ∀ s ∈ put r.base (kept (bitOf mask) (r.ws.take k)), s.length = 64 := put_all _ _ hfit.full (fun x hx => (hfit.wfull x (List.mem_of_mem_take (kept_mem _ _ x hx))).2)
          have hplen : (put r.base (kept (bitOf mask) (r.ws.take k))).length = n := (put_length _ _).trans hfit.size
          have hfl : (put r.base (kept (bitOf mask) (r.ws.take k))).flatten.length = 64 * n := by rw [flat_length _ hfull, hplen]
          have XB := hide (VBox.cell 0 _ rfl)
          have XB_lt := hide (show (⟨w0.heap.size, 0, none⟩ : Addr).block < V.heap.size from VBox.lt)
          have XS := hide (VRow.cell o _ c0)
          have XS_lt := hide (show (⟨g2, o, none⟩ : Addr).block < V.heap.size from VRow.lt)
          have XP := hide (VC.cell 0 (.int .i64 (place : Int)) rfl)
          have XP_lt := hide (show (⟨wr.heap.size, 0, none⟩ : Addr).block < V.heap.size from VC.lt)
          have XR := hide (Blk.range (o := 65) (l := u8s after) VC (ch_after ⟨place, before, after⟩ hcb))
          have XI := hide (secInfo after hca)
          have XI2 := hide (show (Try.prog.info? 60).map (·.size) = some (u8s after).toArray.size by rw [List.size_toArray]; exact secInfo after hca)
          have XT := hide (Blk.there (o := place * 64) (n := (u8s after).toArray.size) VSec (by rw [List.size_toArray, u8s_length, hca, blk8_size, hfl]; omega))
          have XT_lt := hide (show sb < V.heap.size from VSec.lt)
          have hp0 : (0 : Int) ≤ (place : Int) := by omega
          have hp1 : (place : Int) < (n : Int) := by omega
          have HVS := hide hVSec
          have HVK := hide hVK
          have HFULL := hide hfull
          have HPLEN := hide hplen
          have HVE := hide hV
          clear hVSec hVK hVC VSec VC VBox VRow hfull hplen hfl hV
          gi_wp2_with (first
          | ((with_reducible refine wpListIn_load_mid rfl 64 (.tmp 32) rfl p (k * 129) rfl (ccells ⟨place, before, after⟩) _ ?_ Try.underlying64 ?_ ?_ ?_); exact HRG.out; rfl; exact XI4.out)
          | ((with_reducible refine wpListIn_store_mid rfl 64 (.tmp 7) (.tmp 33) rfl wr.heap.size 0 (ccells ⟨place, before, after⟩).toArray rfl rfl ?_ ?_ ?_ ?_); exact (Blk.new_ wr zch _ rfl).there (by rw [XL.out, HZS.out]; exact Nat.le_refl _); exact XI3.out; exact all_oneCell_toArray (oneCell_c _)))
          rw [← HVE.out]
          refine region_phasesIn (ops := _) (valV [some (.pointer (some ⟨g2, o, none⟩)), some (.pointer (some ⟨g2, o, none⟩)), some (.pointer (some ⟨g2, o, none⟩)), some (.slice (some ⟨sb, 0, none⟩) n n), some (.pointer (some ⟨wr.heap.size, 0, none⟩)), some (.int .i64 (place : Int)), some (.pointer (some ⟨wr.heap.size, 65, none⟩)), some (.agg (u8s after).toArray), some (.pointer (some ⟨sb, place * 64, none⟩)), none]) (phased [⟨9, 8, fun _ w => ∃ u, Abv V u ∧ w = u.setCells sb (place * 64) (u8s after)⟩] (fun w => Abv V w)) (by kernel_rfl) (by kernel_rfl) (by kernel_rfl) (by kernel_rfl) (by kernel_rfl) (phased_ext (by kernel_rfl)) ?_ ?_ ?_
          · exact (Abv.refl _).drew
          · intro i o ho L a w2 hph hsz hLi hnot hyes old dep
            match i, ho with
            | 0, ho =>
              obtain rfl := Option.some.inj ho
              rw [if_pos (wanted_none rfl)]
              have o2 := old 2 (by kernel_rfl)
              have hA : Abv V w2 := phased_first (fun p hp => by simp only [List.mem_cons, List.not_mem_nil, or_false] at hp; rcases hp with rfl; exact hnot _ (by kernel_rfl)) hph
              have hc := (Below.cell hA (p := ⟨w0.heap.size, 0, none⟩) XB_lt.out).trans XB.out
              refine wp_yields (v := .pointer (some ⟨g2, o, none⟩)) (w' := w2) ?_ (fun u hu => Option.some.inj (Option.some.inj hu)) (phased_quiet hLi (by rfl) hph)
              clear dep old ho hsz hph hnot hyes hLi
              go_simp
            | 1, ho =>
              obtain rfl := Option.some.inj ho
              rw [if_pos (wanted_none rfl)]
              have d0 : a.tmps.getD 40 undef = .pointer (some ⟨g2, o, none⟩) := dep 0 _ _ (by kernel_rfl) rfl rfl _ rfl
              have e0 : a.tmps[40]?.getD undef = .pointer (some ⟨g2, o, none⟩) := (Array.getD_eq_getD_getElem? ..).symm.trans d0
              refine wp_yields (v := .pointer (some ⟨g2, o, none⟩)) (w' := w2) ?_ (fun u hu => Option.some.inj (Option.some.inj hu)) (phased_quiet hLi (by rfl) hph)
              clear dep old ho hsz hph hnot hyes hLi
              go_simp
            | 2, ho =>
              obtain rfl := Option.some.inj ho
              rw [if_pos (wanted_none rfl)]
              have d1 : a.tmps.getD 41 undef = .pointer (some ⟨g2, o, none⟩) := dep 1 _ _ (by kernel_rfl) rfl rfl _ rfl
              have e1 : a.tmps[41]?.getD undef = .pointer (some ⟨g2, o, none⟩) := (Array.getD_eq_getD_getElem? ..).symm.trans d1
              refine wp_yields (v := .pointer (some ⟨g2, o, none⟩)) (w' := w2) ?_ (fun u hu => Option.some.inj (Option.some.inj hu)) (phased_quiet hLi (by rfl) hph)
              clear dep old ho hsz hph hnot hyes hLi
              go_simp
            | 3, ho =>
              obtain rfl := Option.some.inj ho
              rw [if_pos (wanted_none rfl)]
              have d2 : a.tmps.getD 42 undef = .pointer (some ⟨g2, o, none⟩) := dep 2 _ _ (by kernel_rfl) rfl rfl _ rfl
              have e2 : a.tmps[42]?.getD undef = .pointer (some ⟨g2, o, none⟩) := (Array.getD_eq_getD_getElem? ..).symm.trans d2
              have hA : Abv V w2 := phased_first (fun p hp => by simp only [List.mem_cons, List.not_mem_nil, or_false] at hp; rcases hp with rfl; exact hnot _ (by kernel_rfl)) hph
              have hc := (Below.cell hA (p := ⟨g2, o, none⟩) XS_lt.out).trans XS.out
              refine wp_yields (v := .slice (some ⟨sb, 0, none⟩) n n) (w' := w2) ?_ (fun u hu => Option.some.inj (Option.some.inj hu)) (phased_quiet hLi (by rfl) hph)
              clear dep old ho hsz hph hnot hyes hLi
              go_simp
            | 4, ho =>
              obtain rfl := Option.some.inj ho
              rw [if_pos (wanted_none rfl)]
              have o7 := old 7 (by kernel_rfl)
              refine wp_yields (v := .pointer (some ⟨wr.heap.size, 0, none⟩)) (w' := w2) ?_ (fun u hu => Option.some.inj (Option.some.inj hu)) (phased_quiet hLi (by rfl) hph)
              clear dep old ho hsz hph hnot hyes hLi
              go_simp
            | 5, ho =>
              obtain rfl := Option.some.inj ho
              rw [if_pos (wanted_none rfl)]
              have d4 : a.tmps.getD 44 undef = .pointer (some ⟨wr.heap.size, 0, none⟩) := dep 4 _ _ (by kernel_rfl) rfl rfl _ rfl
              have e4 : a.tmps[44]?.getD undef = .pointer (some ⟨wr.heap.size, 0, none⟩) := (Array.getD_eq_getD_getElem? ..).symm.trans d4
              have hA : Abv V w2 := phased_first (fun p hp => by simp only [List.mem_cons, List.not_mem_nil, or_false] at hp; rcases hp with rfl; exact hnot _ (by kernel_rfl)) hph
              have hc := (Below.cell hA (p := ⟨wr.heap.size, 0, none⟩) XP_lt.out).trans XP.out
              refine wp_yields (v := .int .i64 (place : Int)) (w' := w2) ?_ (fun u hu => Option.some.inj (Option.some.inj hu)) (phased_quiet hLi (by rfl) hph)
              clear dep old ho hsz hph hnot hyes hLi
              go_simp
            | 6, ho =>
              obtain rfl := Option.some.inj ho
              rw [if_pos (wanted_none rfl)]
              have o7 := old 7 (by kernel_rfl)
              refine wp_yields (v := .pointer (some ⟨wr.heap.size, 65, none⟩)) (w' := w2) ?_ (fun u hu => Option.some.inj (Option.some.inj hu)) (phased_quiet hLi (by rfl) hph)
              clear dep old ho hsz hph hnot hyes hLi
              go_simp
            | 7, ho =>
              obtain rfl := Option.some.inj ho
              rw [if_pos (wanted_none rfl)]
              have d6 : a.tmps.getD 46 undef = .pointer (some ⟨wr.heap.size, 65, none⟩) := dep 6 _ _ (by kernel_rfl) rfl rfl _ rfl
              have e6 : a.tmps[46]?.getD undef = .pointer (some ⟨wr.heap.size, 65, none⟩) := (Array.getD_eq_getD_getElem? ..).symm.trans d6
              have hA : Abv V w2 := phased_first (fun p hp => by simp only [List.mem_cons, List.not_mem_nil, or_false] at hp; rcases hp with rfl; exact hnot _ (by kernel_rfl)) hph
              refine wp_load_mid 60 _ rfl wr.heap.size 65 d6 (u8s after) _ (range_below XR.out hA XP_lt.out) Try.underlying60 rfl XI.out ⟨_, rfl, (fun u hu => Option.some.inj (Option.some.inj hu)), phased_quiet hLi (by rfl) hph⟩
            | 8, ho =>
              obtain rfl := Option.some.inj ho
              rw [if_pos (wanted_none rfl)]
              have d3 : a.tmps.getD 43 undef = .slice (some ⟨sb, 0, none⟩) n n := dep 3 _ _ (by kernel_rfl) rfl rfl _ rfl
              have e3 : a.tmps[43]?.getD undef = .slice (some ⟨sb, 0, none⟩) n n := (Array.getD_eq_getD_getElem? ..).symm.trans d3
              have d5 : a.tmps.getD 45 undef = .int .i64 (place : Int) := dep 5 _ _ (by kernel_rfl) rfl rfl _ rfl
              have e5 : a.tmps[45]?.getD undef = .int .i64 (place : Int) := (Array.getD_eq_getD_getElem? ..).symm.trans d5
              refine wp_yields (v := .pointer (some ⟨sb, place * 64, none⟩)) (w' := w2) ?_ (fun u hu => Option.some.inj (Option.some.inj hu)) (phased_quiet hLi (by rfl) hph)
              clear dep old ho hsz hph hnot hyes hLi
              go_simp
            | 9, ho =>
              obtain rfl := Option.some.inj ho
              rw [if_pos (wanted_none rfl)]
              have d7 : a.tmps.getD 47 undef = .agg (u8s after).toArray := dep 7 _ _ (by kernel_rfl) rfl rfl _ rfl
              have e7 : a.tmps[47]?.getD undef = .agg (u8s after).toArray := (Array.getD_eq_getD_getElem? ..).symm.trans d7
              have d8 : a.tmps.getD 48 undef = .pointer (some ⟨sb, place * 64, none⟩) := dep 8 _ _ (by kernel_rfl) rfl rfl _ rfl
              have e8 : a.tmps[48]?.getD undef = .pointer (some ⟨sb, place * 64, none⟩) := (Array.getD_eq_getD_getElem? ..).symm.trans d8
              unfold phased at hph
              rw [if_neg (by rw [hLi]; decide)] at hph
              have hA : Abv V w2 := hph
              refine wp_store_mid 60 _ _ rfl sb (place * 64) (u8s after).toArray d8 d7 (there_below XT.out hA XT_lt.out) XI2.out (all_oneCell_toArray (oneCell_u8s after)) ⟨undef, rfl, (fun u hu => by cases Option.some.inj hu), ?_⟩
              unfold phased
              rw [if_pos (by simp [also])]
              exact ⟨by simp [also, hyes 8 (by kernel_rfl)], w2, hA, rfl⟩
            | i + 10, ho => exact absurd ho (by simp)
          · intro a w2 hph hsz hdf fin keep
            unfold phased at hph
            rw [if_pos rfl] at hph
            obtain ⟨_, u, hA, hw⟩ := hph
            obtain ⟨tm, df⟩ := a
            have hx : tm = #[tm.getD 0 undef, tm.getD 1 undef, tm.getD 2 undef, tm.getD 3 undef, tm.getD 4 undef, tm.getD 5 undef, tm.getD 6 undef, tm.getD 7 undef, tm.getD 8 undef, tm.getD 9 undef, tm.getD 10 undef, tm.getD 11 undef, tm.getD 12 undef, tm.getD 13 undef, tm.getD 14 undef, tm.getD 15 undef, tm.getD 16 undef, tm.getD 17 undef, tm.getD 18 undef, tm.getD 19 undef, tm.getD 20 undef, tm.getD 21 undef, tm.getD 22 undef, tm.getD 23 undef, tm.getD 24 undef, tm.getD 25 undef, tm.getD 26 undef, tm.getD 27 undef, tm.getD 28 undef, tm.getD 29 undef, tm.getD 30 undef, tm.getD 31 undef, tm.getD 32 undef, tm.getD 33 undef, tm.getD 34 undef, tm.getD 35 undef, tm.getD 36 undef, tm.getD 37 undef, tm.getD 38 undef, tm.getD 39 undef, tm.getD 40 undef, tm.getD 41 undef, tm.getD 42 undef, tm.getD 43 undef, tm.getD 44 undef, tm.getD 45 undef, tm.getD 46 undef, tm.getD 47 undef, tm.getD 48 undef, tm.getD 49 undef, tm.getD 50 undef, tm.getD 51 undef, tm.getD 52 undef, tm.getD 53 undef, tm.getD 54 undef, tm.getD 55 undef, tm.getD 56 undef, tm.getD 57 undef, tm.getD 58 undef] := slots_of tm 59 hsz
            generalize tm.getD 40 undef = x40 at hx
            generalize tm.getD 41 undef = x41 at hx
            generalize tm.getD 42 undef = x42 at hx
            generalize tm.getD 43 undef = x43 at hx
            generalize tm.getD 44 undef = x44 at hx
            generalize tm.getD 45 undef = x45 at hx
            generalize tm.getD 46 undef = x46 at hx
            generalize tm.getD 47 undef = x47 at hx
            generalize tm.getD 48 undef = x48 at hx
            rw [show tm.getD 0 undef = _ from keep 0 (by kernel_rfl)] at hx
            rw [show tm.getD 1 undef = _ from keep 1 (by kernel_rfl)] at hx
            rw [show tm.getD 2 undef = _ from keep 2 (by kernel_rfl)] at hx
            rw [show tm.getD 3 undef = _ from keep 3 (by kernel_rfl)] at hx
            rw [show tm.getD 4 undef = _ from keep 4 (by kernel_rfl)] at hx
            rw [show tm.getD 5 undef = _ from keep 5 (by kernel_rfl)] at hx
            rw [show tm.getD 6 undef = _ from keep 6 (by kernel_rfl)] at hx
            rw [show tm.getD 7 undef = _ from keep 7 (by kernel_rfl)] at hx
            rw [show tm.getD 8 undef = _ from keep 8 (by kernel_rfl)] at hx
            rw [show tm.getD 9 undef = _ from keep 9 (by kernel_rfl)] at hx
            rw [show tm.getD 10 undef = _ from keep 10 (by kernel_rfl)] at hx
            rw [show tm.getD 11 undef = _ from keep 11 (by kernel_rfl)] at hx
            rw [show tm.getD 12 undef = _ from keep 12 (by kernel_rfl)] at hx
            rw [show tm.getD 13 undef = _ from keep 13 (by kernel_rfl)] at hx
            rw [show tm.getD 14 undef = _ from keep 14 (by kernel_rfl)] at hx
            rw [show tm.getD 15 undef = _ from keep 15 (by kernel_rfl)] at hx
            rw [show tm.getD 16 undef = _ from keep 16 (by kernel_rfl)] at hx
            rw [show tm.getD 17 undef = _ from keep 17 (by kernel_rfl)] at hx
            rw [show tm.getD 18 undef = _ from keep 18 (by kernel_rfl)] at hx
            rw [show tm.getD 19 undef = _ from keep 19 (by kernel_rfl)] at hx
            rw [show tm.getD 20 undef = _ from keep 20 (by kernel_rfl)] at hx
            rw [show tm.getD 21 undef = _ from keep 21 (by kernel_rfl)] at hx
            rw [show tm.getD 22 undef = _ from keep 22 (by kernel_rfl)] at hx
            rw [show tm.getD 23 undef = _ from keep 23 (by kernel_rfl)] at hx
            rw [show tm.getD 24 undef = _ from keep 24 (by kernel_rfl)] at hx
            rw [show tm.getD 25 undef = _ from keep 25 (by kernel_rfl)] at hx
            rw [show tm.getD 26 undef = _ from keep 26 (by kernel_rfl)] at hx
            rw [show tm.getD 27 undef = _ from keep 27 (by kernel_rfl)] at hx
            rw [show tm.getD 28 undef = _ from keep 28 (by kernel_rfl)] at hx
            rw [show tm.getD 29 undef = _ from keep 29 (by kernel_rfl)] at hx
            rw [show tm.getD 30 undef = _ from keep 30 (by kernel_rfl)] at hx
            rw [show tm.getD 31 undef = _ from keep 31 (by kernel_rfl)] at hx
            rw [show tm.getD 32 undef = _ from keep 32 (by kernel_rfl)] at hx
            rw [show tm.getD 33 undef = _ from keep 33 (by kernel_rfl)] at hx
            rw [show tm.getD 34 undef = _ from keep 34 (by kernel_rfl)] at hx
            rw [show tm.getD 35 undef = _ from keep 35 (by kernel_rfl)] at hx
            rw [show tm.getD 36 undef = _ from keep 36 (by kernel_rfl)] at hx
            rw [show tm.getD 37 undef = _ from keep 37 (by kernel_rfl)] at hx
            rw [show tm.getD 38 undef = _ from keep 38 (by kernel_rfl)] at hx
            rw [show tm.getD 39 undef = _ from keep 39 (by kernel_rfl)] at hx
            rw [show tm.getD 49 undef = _ from keep 49 (by kernel_rfl)] at hx
            rw [show tm.getD 50 undef = _ from keep 50 (by kernel_rfl)] at hx
            rw [show tm.getD 51 undef = _ from keep 51 (by kernel_rfl)] at hx
            rw [show tm.getD 52 undef = _ from keep 52 (by kernel_rfl)] at hx
            rw [show tm.getD 53 undef = _ from keep 53 (by kernel_rfl)] at hx
            rw [show tm.getD 54 undef = _ from keep 54 (by kernel_rfl)] at hx
            rw [show tm.getD 55 undef = _ from keep 55 (by kernel_rfl)] at hx
            rw [show tm.getD 56 undef = _ from keep 56 (by kernel_rfl)] at hx
            rw [show tm.getD 57 undef = _ from keep 57 (by kernel_rfl)] at hx
            rw [show tm.getD 58 undef = _ from keep 58 (by kernel_rfl)] at hx
            simp only [Array.getD_eq_getD_getElem?, List.getElem?_toArray, List.getElem?_cons_succ, List.getElem?_cons_zero, Option.getD_some] at hx
            dsimp only at hdf
            clear fin keep hsz
            subst hx hdf
            have HW := hide hw
            clear hw
            gi_wp2
            go_roundw
            case rel =>
              have e := HT.out
              rw [HBIT.out] at e
              simp only [if_true] at e
              refine ⟨k + 1, by omega, by go_num, ?_, ?_⟩
              · rw [e, put_snoc, HW.out]
                exact sec_set HVS.out hA HFULL.out (by rw [HPLEN.out]; exact hcp') hca
              · rw [HW.out]
                exact HVK.out.trans_same ((Kept.of_below hA).trans_same (Kept.setCells u sb (place * 64) (u8s after)))
            case measure => simp [intOf]; omega
      · obtain rfl : k = len := by omega
        have VBox := (HKept.out.trans_same hkv).blk bBox (fun e => by have e' : w0.heap.size = sb := e; omega)
        have VRow := (HKept.out.trans_same hkv).blk bRow hne
        have hKD := HKD.out
        have hKr : wr.heap[D]? = some (.deferred (some [])) := (hkv.block D (Array.getElem?_eq_some_iff.1 hKD).1 (fun e => by have e' : D = sb := e; rw [HSZ.out] at hD; omega)).trans hKD
        have XB := hide (VBox.cell 0 _ rfl)
        have XB_lt := hide VBox.lt
        have HV := hide VSec
        have HVR := hide VRow
        have HKV := hide hkv
        have HKR := hide hKr
        have hDs := Nat.lt_of_lt_of_le (Array.getElem?_eq_some_iff.1 hKD).1 hkv.size
        clear VBox VRow hKD hKr VSec hkv
        gi_wp2
        refine region_phasesIn (ops := _) (valV [some (.pointer (some ⟨g2, o, none⟩)), some (.pointer (some ⟨g2, o, none⟩)), some (.pointer (some ⟨g2, o, none⟩)), some (.pointer (some ⟨g2, o, none⟩)), some (.pointer (some ⟨g2, o + 1, none⟩)), none, some (.pointer (some ⟨g2, o, none⟩)), some (.pointer (some ⟨g2, o + 2, none⟩)), none, some (.pointer (some ⟨g2, o, none⟩)), some (.pointer (some ⟨g2, o + 3, none⟩)), none]) (phased [⟨11, 10, fun _ => PB wr g2 (((cs.setIfInBounds (o + 1) (.slice none 0 0)).setIfInBounds (o + 2) (.bool false)).setIfInBounds (o + 3) (.int .i64 0))⟩, ⟨8, 7, fun _ => PB wr g2 ((cs.setIfInBounds (o + 1) (.slice none 0 0)).setIfInBounds (o + 2) (.bool false))⟩, ⟨5, 4, fun _ => PB wr g2 (cs.setIfInBounds (o + 1) (.slice none 0 0))⟩] (PB wr g2 cs)) (by kernel_rfl) (by kernel_rfl) (by kernel_rfl) (by kernel_rfl) (by kernel_rfl) (phased_ext (by kernel_rfl)) ?_ ?_ ?_
        · exact ⟨HVR.out.drew, (Kept.refl _ _).drew⟩
        · intro i o ho L a w2 hph hsz hLi hnot hyes old dep
          match i, ho with
          | 0, ho =>
            obtain rfl := Option.some.inj ho
            rw [if_pos (wanted_none rfl)]
            have o2 := old 2 (by kernel_rfl)
            have hkk := phased_all (R := fun w => Kept (fun k => k = g2) wr w) (fun q hq v w h => by simp only [List.mem_cons, List.not_mem_nil, or_false] at hq; rcases hq with rfl | rfl | rfl <;> exact h.2) (fun w h => h.2) hph
            have hc := (hkk.cell (p := ⟨w0.heap.size, 0, none⟩) XB_lt.out (by show ¬ w0.heap.size = g2; omega)).trans XB.out
            refine wp_yields (v := .pointer (some ⟨g2, o, none⟩)) (w' := w2) ?_ (fun u hu => Option.some.inj (Option.some.inj hu)) (phased_quiet hLi (by rfl) hph)
            clear dep old ho hsz hph hnot hyes hLi
            go_simp
          | 1, ho =>
            obtain rfl := Option.some.inj ho
            rw [if_pos (wanted_none rfl)]
            have o2 := old 2 (by kernel_rfl)
            have hkk := phased_all (R := fun w => Kept (fun k => k = g2) wr w) (fun q hq v w h => by simp only [List.mem_cons, List.not_mem_nil, or_false] at hq; rcases hq with rfl | rfl | rfl <;> exact h.2) (fun w h => h.2) hph
            have hc := (hkk.cell (p := ⟨w0.heap.size, 0, none⟩) XB_lt.out (by show ¬ w0.heap.size = g2; omega)).trans XB.out
            refine wp_yields (v := .pointer (some ⟨g2, o, none⟩)) (w' := w2) ?_ (fun u hu => Option.some.inj (Option.some.inj hu)) (phased_quiet hLi (by rfl) hph)
            clear dep old ho hsz hph hnot hyes hLi
            go_simp
          | 2, ho =>
            obtain rfl := Option.some.inj ho
            rw [if_pos (wanted_none rfl)]
            have o2 := old 2 (by kernel_rfl)
            have hkk := phased_all (R := fun w => Kept (fun k => k = g2) wr w) (fun q hq v w h => by simp only [List.mem_cons, List.not_mem_nil, or_false] at hq; rcases hq with rfl | rfl | rfl <;> exact h.2) (fun w h => h.2) hph
            have hc := (hkk.cell (p := ⟨w0.heap.size, 0, none⟩) XB_lt.out (by show ¬ w0.heap.size = g2; omega)).trans XB.out
            refine wp_yields (v := .pointer (some ⟨g2, o, none⟩)) (w' := w2) ?_ (fun u hu => Option.some.inj (Option.some.inj hu)) (phased_quiet hLi (by rfl) hph)
            clear dep old ho hsz hph hnot hyes hLi
            go_simp
          | 3, ho =>
            obtain rfl := Option.some.inj ho
            rw [if_pos (wanted_none rfl)]
            have d0 : a.tmps.getD 50 undef = .pointer (some ⟨g2, o, none⟩) := dep 0 _ _ (by kernel_rfl) rfl rfl _ rfl
            have e0 : a.tmps[50]?.getD undef = .pointer (some ⟨g2, o, none⟩) := (Array.getD_eq_getD_getElem? ..).symm.trans d0
            refine wp_yields (v := .pointer (some ⟨g2, o, none⟩)) (w' := w2) ?_ (fun u hu => Option.some.inj (Option.some.inj hu)) (phased_quiet hLi (by rfl) hph)
            clear dep old ho hsz hph hnot hyes hLi
            go_simp
          | 4, ho =>
            obtain rfl := Option.some.inj ho
            rw [if_pos (wanted_none rfl)]
            have d3 : a.tmps.getD 53 undef = .pointer (some ⟨g2, o, none⟩) := dep 3 _ _ (by kernel_rfl) rfl rfl _ rfl
            have e3 : a.tmps[53]?.getD undef = .pointer (some ⟨g2, o, none⟩) := (Array.getD_eq_getD_getElem? ..).symm.trans d3
            refine wp_yields (v := .pointer (some ⟨g2, o + 1, none⟩)) (w' := w2) ?_ (fun u hu => Option.some.inj (Option.some.inj hu)) (phased_quiet hLi (by rfl) hph)
            clear dep old ho hsz hph hnot hyes hLi
            go_simp
          | 5, ho =>
            obtain rfl := Option.some.inj ho
            rw [if_pos (wanted_none rfl)]
            have d4 : a.tmps.getD 54 undef = .pointer (some ⟨g2, o + 1, none⟩) := dep 4 _ _ (by kernel_rfl) rfl rfl _ rfl
            have e4 : a.tmps[54]?.getD undef = .pointer (some ⟨g2, o + 1, none⟩) := (Array.getD_eq_getD_getElem? ..).symm.trans d4
            have hB : PB wr g2 cs w2 := by
              unfold phased phased phased phased at hph
              rw [if_neg (by rw [hnot 11 (by kernel_rfl)]; decide), if_neg (by rw [hnot 8 (by kernel_rfl)]; decide), if_neg (by rw [hLi]; decide)] at hph
              exact hph
            have hc := hB.1.cell (o + 1) _ (Array.getElem?_eq_getElem (by first | omega | (simp; omega)))
            have hf := hB.1.frozen (o + 1)
            refine wp_skips (w' := w2.setCell ⟨g2, o + 1, none⟩ (.slice none 0 0)) ?_ (fun u hu => by cases Option.some.inj hu) ?_
            · generalize cs[o + 1]'(_) = cold at hc
              clear dep old ho hsz hph hnot hyes hLi hB
              go_simp
            · unfold phased phased phased
              rw [if_neg (by simp [also, hnot 11 (by kernel_rfl)]), if_neg (by simp [also, hnot 8 (by kernel_rfl)]), if_pos (by simp [also])]
              exact ⟨by simp [also, hyes 4 (by kernel_rfl)], hB.1.set_ _ _, hB.2.trans_same (Kept.setCell w2 ⟨g2, o + 1, none⟩ _)⟩
          | 6, ho =>
            obtain rfl := Option.some.inj ho
            rw [if_pos (wanted_none rfl)]
            have d1 : a.tmps.getD 51 undef = .pointer (some ⟨g2, o, none⟩) := dep 1 _ _ (by kernel_rfl) rfl rfl _ rfl
            have e1 : a.tmps[51]?.getD undef = .pointer (some ⟨g2, o, none⟩) := (Array.getD_eq_getD_getElem? ..).symm.trans d1
            refine wp_yields (v := .pointer (some ⟨g2, o, none⟩)) (w' := w2) ?_ (fun u hu => Option.some.inj (Option.some.inj hu)) (phased_quiet hLi (by rfl) hph)
            clear dep old ho hsz hph hnot hyes hLi
            go_simp
          | 7, ho =>
            obtain rfl := Option.some.inj ho
            rw [if_pos (wanted_none rfl)]
            have d6 : a.tmps.getD 55 undef = .pointer (some ⟨g2, o, none⟩) := dep 6 _ _ (by kernel_rfl) rfl rfl _ rfl
            have e6 : a.tmps[55]?.getD undef = .pointer (some ⟨g2, o, none⟩) := (Array.getD_eq_getD_getElem? ..).symm.trans d6
            refine wp_yields (v := .pointer (some ⟨g2, o + 2, none⟩)) (w' := w2) ?_ (fun u hu => Option.some.inj (Option.some.inj hu)) (phased_quiet hLi (by rfl) hph)
            clear dep old ho hsz hph hnot hyes hLi
            go_simp
          | 8, ho =>
            obtain rfl := Option.some.inj ho
            rw [if_pos (wanted_none rfl)]
            have d7 : a.tmps.getD 56 undef = .pointer (some ⟨g2, o + 2, none⟩) := dep 7 _ _ (by kernel_rfl) rfl rfl _ rfl
            have e7 : a.tmps[56]?.getD undef = .pointer (some ⟨g2, o + 2, none⟩) := (Array.getD_eq_getD_getElem? ..).symm.trans d7
            have hB : PB wr g2 (cs.setIfInBounds (o + 1) (.slice none 0 0)) w2 := by
              unfold phased phased phased phased at hph
              rw [if_neg (by rw [hnot 11 (by kernel_rfl)]; decide), if_neg (by rw [hLi]; decide), if_pos (hyes 5 (by kernel_rfl))] at hph
              exact hph.2
            have hc := hB.1.cell (o + 2) _ (Array.getElem?_eq_getElem (by first | omega | (simp; omega)))
            have hf := hB.1.frozen (o + 2)
            refine wp_skips (w' := w2.setCell ⟨g2, o + 2, none⟩ (.bool false)) ?_ (fun u hu => by cases Option.some.inj hu) ?_
            · generalize (cs.setIfInBounds (o + 1) (.slice none 0 0))[o + 2]'(_) = cold at hc
              clear dep old ho hsz hph hnot hyes hLi hB
              go_simp
            · unfold phased phased phased
              rw [if_neg (by simp [also, hnot 11 (by kernel_rfl)]), if_pos (by simp [also])]
              exact ⟨by simp [also, hyes 7 (by kernel_rfl)], hB.1.set_ _ _, hB.2.trans_same (Kept.setCell w2 ⟨g2, o + 2, none⟩ _)⟩
          | 9, ho =>
            obtain rfl := Option.some.inj ho
            rw [if_pos (wanted_none rfl)]
            have d2 : a.tmps.getD 52 undef = .pointer (some ⟨g2, o, none⟩) := dep 2 _ _ (by kernel_rfl) rfl rfl _ rfl
            have e2 : a.tmps[52]?.getD undef = .pointer (some ⟨g2, o, none⟩) := (Array.getD_eq_getD_getElem? ..).symm.trans d2
            refine wp_yields (v := .pointer (some ⟨g2, o, none⟩)) (w' := w2) ?_ (fun u hu => Option.some.inj (Option.some.inj hu)) (phased_quiet hLi (by rfl) hph)
            clear dep old ho hsz hph hnot hyes hLi
            go_simp
          | 10, ho =>
            obtain rfl := Option.some.inj ho
            rw [if_pos (wanted_none rfl)]
            have d9 : a.tmps.getD 57 undef = .pointer (some ⟨g2, o, none⟩) := dep 9 _ _ (by kernel_rfl) rfl rfl _ rfl
            have e9 : a.tmps[57]?.getD undef = .pointer (some ⟨g2, o, none⟩) := (Array.getD_eq_getD_getElem? ..).symm.trans d9
            refine wp_yields (v := .pointer (some ⟨g2, o + 3, none⟩)) (w' := w2) ?_ (fun u hu => Option.some.inj (Option.some.inj hu)) (phased_quiet hLi (by rfl) hph)
            clear dep old ho hsz hph hnot hyes hLi
            go_simp
          | 11, ho =>
            obtain rfl := Option.some.inj ho
            rw [if_pos (wanted_none rfl)]
            have d10 : a.tmps.getD 58 undef = .pointer (some ⟨g2, o + 3, none⟩) := dep 10 _ _ (by kernel_rfl) rfl rfl _ rfl
            have e10 : a.tmps[58]?.getD undef = .pointer (some ⟨g2, o + 3, none⟩) := (Array.getD_eq_getD_getElem? ..).symm.trans d10
            have hB : PB wr g2 ((cs.setIfInBounds (o + 1) (.slice none 0 0)).setIfInBounds (o + 2) (.bool false)) w2 := by
              unfold phased phased phased phased at hph
              rw [if_neg (by rw [hLi]; decide), if_pos (hyes 8 (by kernel_rfl))] at hph
              exact hph.2
            have hc := hB.1.cell (o + 3) _ (Array.getElem?_eq_getElem (by first | omega | (simp; omega)))
            have hf := hB.1.frozen (o + 3)
            refine wp_skips (w' := w2.setCell ⟨g2, o + 3, none⟩ (.int .i64 0)) ?_ (fun u hu => by cases Option.some.inj hu) ?_
            · generalize ((cs.setIfInBounds (o + 1) (.slice none 0 0)).setIfInBounds (o + 2) (.bool false))[o + 3]'(_) = cold at hc
              clear dep old ho hsz hph hnot hyes hLi hB
              go_simp
            · unfold phased phased phased
              rw [if_pos (by simp [also])]
              exact ⟨by simp [also, hyes 10 (by kernel_rfl)], hB.1.set_ _ _, hB.2.trans_same (Kept.setCell w2 ⟨g2, o + 3, none⟩ _)⟩
          | i + 12, ho => exact absurd ho (by simp)
        · intro a w2 hph hsz hdf fin keep
          unfold phased at hph
          rw [if_pos rfl] at hph
          have hB : PB wr g2 (((cs.setIfInBounds (o + 1) (.slice none 0 0)).setIfInBounds (o + 2) (.bool false)).setIfInBounds (o + 3) (.int .i64 0)) w2 := hph.2
          clear hph
          obtain ⟨tm, df⟩ := a
          have hx : tm = #[tm.getD 0 undef, tm.getD 1 undef, tm.getD 2 undef, tm.getD 3 undef, tm.getD 4 undef, tm.getD 5 undef, tm.getD 6 undef, tm.getD 7 undef, tm.getD 8 undef, tm.getD 9 undef, tm.getD 10 undef, tm.getD 11 undef, tm.getD 12 undef, tm.getD 13 undef, tm.getD 14 undef, tm.getD 15 undef, tm.getD 16 undef, tm.getD 17 undef, tm.getD 18 undef, tm.getD 19 undef, tm.getD 20 undef, tm.getD 21 undef, tm.getD 22 undef, tm.getD 23 undef, tm.getD 24 undef, tm.getD 25 undef, tm.getD 26 undef, tm.getD 27 undef, tm.getD 28 undef, tm.getD 29 undef, tm.getD 30 undef, tm.getD 31 undef, tm.getD 32 undef, tm.getD 33 undef, tm.getD 34 undef, tm.getD 35 undef, tm.getD 36 undef, tm.getD 37 undef, tm.getD 38 undef, tm.getD 39 undef, tm.getD 40 undef, tm.getD 41 undef, tm.getD 42 undef, tm.getD 43 undef, tm.getD 44 undef, tm.getD 45 undef, tm.getD 46 undef, tm.getD 47 undef, tm.getD 48 undef, tm.getD 49 undef, tm.getD 50 undef, tm.getD 51 undef, tm.getD 52 undef, tm.getD 53 undef, tm.getD 54 undef, tm.getD 55 undef, tm.getD 56 undef, tm.getD 57 undef, tm.getD 58 undef] := slots_of tm 59 hsz
          generalize tm.getD 50 undef = y50 at hx
          generalize tm.getD 51 undef = y51 at hx
          generalize tm.getD 52 undef = y52 at hx
          generalize tm.getD 53 undef = y53 at hx
          generalize tm.getD 54 undef = y54 at hx
          generalize tm.getD 55 undef = y55 at hx
          generalize tm.getD 56 undef = y56 at hx
          generalize tm.getD 57 undef = y57 at hx
          generalize tm.getD 58 undef = y58 at hx
          rw [show tm.getD 0 undef = _ from keep 0 (by kernel_rfl)] at hx
          rw [show tm.getD 1 undef = _ from keep 1 (by kernel_rfl)] at hx
          rw [show tm.getD 2 undef = _ from keep 2 (by kernel_rfl)] at hx
          rw [show tm.getD 3 undef = _ from keep 3 (by kernel_rfl)] at hx
          rw [show tm.getD 4 undef = _ from keep 4 (by kernel_rfl)] at hx
          rw [show tm.getD 5 undef = _ from keep 5 (by kernel_rfl)] at hx
          rw [show tm.getD 6 undef = _ from keep 6 (by kernel_rfl)] at hx
          rw [show tm.getD 7 undef = _ from keep 7 (by kernel_rfl)] at hx
          rw [show tm.getD 8 undef = _ from keep 8 (by kernel_rfl)] at hx
          rw [show tm.getD 9 undef = _ from keep 9 (by kernel_rfl)] at hx
          rw [show tm.getD 10 undef = _ from keep 10 (by kernel_rfl)] at hx
          rw [show tm.getD 11 undef = _ from keep 11 (by kernel_rfl)] at hx
          rw [show tm.getD 12 undef = _ from keep 12 (by kernel_rfl)] at hx
          rw [show tm.getD 13 undef = _ from keep 13 (by kernel_rfl)] at hx
          rw [show tm.getD 14 undef = _ from keep 14 (by kernel_rfl)] at hx
          rw [show tm.getD 15 undef = _ from keep 15 (by kernel_rfl)] at hx
          rw [show tm.getD 16 undef = _ from keep 16 (by kernel_rfl)] at hx
          rw [show tm.getD 17 undef = _ from keep 17 (by kernel_rfl)] at hx
          rw [show tm.getD 18 undef = _ from keep 18 (by kernel_rfl)] at hx
          rw [show tm.getD 19 undef = _ from keep 19 (by kernel_rfl)] at hx
          rw [show tm.getD 20 undef = _ from keep 20 (by kernel_rfl)] at hx
          rw [show tm.getD 21 undef = _ from keep 21 (by kernel_rfl)] at hx
          rw [show tm.getD 22 undef = _ from keep 22 (by kernel_rfl)] at hx
          rw [show tm.getD 23 undef = _ from keep 23 (by kernel_rfl)] at hx
          rw [show tm.getD 24 undef = _ from keep 24 (by kernel_rfl)] at hx
          rw [show tm.getD 25 undef = _ from keep 25 (by kernel_rfl)] at hx
          rw [show tm.getD 26 undef = _ from keep 26 (by kernel_rfl)] at hx
          rw [show tm.getD 27 undef = _ from keep 27 (by kernel_rfl)] at hx
          rw [show tm.getD 28 undef = _ from keep 28 (by kernel_rfl)] at hx
          rw [show tm.getD 29 undef = _ from keep 29 (by kernel_rfl)] at hx
          rw [show tm.getD 30 undef = _ from keep 30 (by kernel_rfl)] at hx
          rw [show tm.getD 31 undef = _ from keep 31 (by kernel_rfl)] at hx
          rw [show tm.getD 32 undef = _ from keep 32 (by kernel_rfl)] at hx
          rw [show tm.getD 33 undef = _ from keep 33 (by kernel_rfl)] at hx
          rw [show tm.getD 34 undef = _ from keep 34 (by kernel_rfl)] at hx
          rw [show tm.getD 35 undef = _ from keep 35 (by kernel_rfl)] at hx
          rw [show tm.getD 36 undef = _ from keep 36 (by kernel_rfl)] at hx
          rw [show tm.getD 37 undef = _ from keep 37 (by kernel_rfl)] at hx
          rw [show tm.getD 38 undef = _ from keep 38 (by kernel_rfl)] at hx
          rw [show tm.getD 39 undef = _ from keep 39 (by kernel_rfl)] at hx
          rw [show tm.getD 40 undef = _ from keep 40 (by kernel_rfl)] at hx
          rw [show tm.getD 41 undef = _ from keep 41 (by kernel_rfl)] at hx
          rw [show tm.getD 42 undef = _ from keep 42 (by kernel_rfl)] at hx
          rw [show tm.getD 43 undef = _ from keep 43 (by kernel_rfl)] at hx
          rw [show tm.getD 44 undef = _ from keep 44 (by kernel_rfl)] at hx
          rw [show tm.getD 45 undef = _ from keep 45 (by kernel_rfl)] at hx
          rw [show tm.getD 46 undef = _ from keep 46 (by kernel_rfl)] at hx
          rw [show tm.getD 47 undef = _ from keep 47 (by kernel_rfl)] at hx
          rw [show tm.getD 48 undef = _ from keep 48 (by kernel_rfl)] at hx
          rw [show tm.getD 49 undef = _ from keep 49 (by kernel_rfl)] at hx
          simp only [Array.getD_eq_getD_getElem?, List.getElem?_toArray, List.getElem?_cons_succ, List.getElem?_cons_zero, Option.getD_some] at hx
          dsimp only at hdf
          clear fin keep hsz
          subst hx hdf
          have HB := hide hB
          clear hB
          gi_wp2
          have hD0 : w0.heap.size + 2 ≤ D := by rw [← HSZ.out]; exact hD
          have hKD2 : w2.heap[D]? = some (.deferred (some [])) := (HB.out.2.block D hDs (fun e => by have e' : D = g2 := e; omega)).trans HKR.out
          have hput : Kept (fun k => k = D) w2 (w2.putObj D (.deferred none)) := by
            have hg := grownBy_putObj' w2 D (.deferred none)
            exact ⟨hg.os, hg.tape, hg.output, hg.size, fun k hk hne => hg.block k hk (fun e => hne (by injection e))⟩
          refine ⟨by simp, .inl ⟨_, _, rfl, run_takeDeferred hKD2, ?_⟩⟩
          have hsecs : (r.crash (bitOf mask)).secs = put r.base (kept (bitOf mask) (r.ws.take k)) := by
            rw [List.take_of_length_le (by rw [HLEN.out]; exact Nat.le_refl _)]; rfl
          refine ⟨_, results_none rfl _ _ _, rfl, hput.blk HB.out.1 (by omega), ?_, ?_⟩
          · rw [hsecs]
            exact hput.blk (HB.out.2.blk HV.out (fun e => hne e.symm)) (by omega)
          · have k1 : Kept (fun k => k = g2 ∨ k = sb) w0 W1 := (Kept.of_below hB0).trans HKept.out (fun i hi => .inl (.inr hi))
            have k2 := k1.trans HKV.out (fun i hi => .inl (.inr hi))
            have k3 := k2.trans HB.out.2 (fun i hi => .inl (.inl hi))
            exact k3.trans hput (fun i hi => .inr (by rw [show i = D from hi]; omega))

/-- A region's crash, plainly. -/
theorem crash_rg (w0 : World) (g2 o sb n mask : Nat) (cs : Array Value) (r : Rg) (pv : Value) (hb2 : Blk w0 g2 56 cs) (c0 : cs[o]? = some (.slice (some ⟨sb, 0, none⟩) n n)) (c1 : cs[o + 1]? = some pv) (c3 : o + 3 < cs.size)
    (hsb : Blk w0 sb 60 (blk8 r.secs.flatten)) (hfit : r.Fit n) (hown : w0.ownsRow 0 64 129 pv r.ws.length (pcells r.pend)) (hlen2 : r.ws.length ≤ 1000000) (np : ∀ k, pv.ownBlock = some k → k ≠ g2 ∧ k ≠ sb) (hne : g2 ≠ sb) :
    Calls Try.prog 20 #[.pointer (some ⟨g2, o, none⟩), .int .u64 (mask : Int)] w0 (CrPost w0 g2 o sb cs (r.crash (bitOf mask)).secs) := by
  have hgl := hb2.lt
  have hsl := hsb.lt
  have hall : ∀ c ∈ r.pend, c.place < n ∧ c.before.length = 64 ∧ c.after.length = 64 := by
    intro c hc
    obtain ⟨k, hk, rfl⟩ := List.getElem_of_mem hc
    have hkw : k < r.ws.length := by have := hk; rw [show r.pend = chain r.base r.ws from rfl, chain_length] at this; exact this
    have h1 := chain_get r.ws r.base k hk hkw
    have h2 := chain_before r.ws r.base hfit.full (fun x hx => (hfit.wfull x hx).2) _ hc
    refine ⟨?_, h2⟩
    rw [show r.pend[k].place = r.ws[k].1 from h1.1]
    exact (hfit.wfull _ (List.getElem_mem hkw)).1
  obtain ⟨cl, hcl⟩ : ∃ cl : List (FC n), cl.map (·.1) = r.pend := ⟨r.pend.attach.map fun c => ⟨c.1, hall c.1 c.2⟩, by simp [List.map_map, Function.comp_def]⟩
  have hpl : r.pend.length = r.ws.length := chain_length _ _
  have hfull : ∀ c ∈ r.pend, c.before.length = 64 ∧ c.after.length = 64 := fun c hc => (hall c hc).2
  have hget : ∀ (j : Nat) (h : j < cl.length) (i : Nat) (v : Value), (ccells cl[j].1)[i]? = some v → (pcells r.pend)[j * 129 + i]? = some v := by
    intro j h i v hv
    have hj : j < r.pend.length := by rw [← hcl, List.length_map]; exact h
    have e : r.pend[j] = cl[j].1 := by
      have h3 : (cl.map (·.1))[j]? = r.pend[j]? := by rw [hcl]
      rw [List.getElem?_map, List.getElem?_eq_getElem h, List.getElem?_eq_getElem hj] at h3
      exact (Option.some.inj h3).symm
    have hi : i < 129 := by
      have := (List.getElem?_eq_some_iff.1 hv).1
      rwa [ccells_length _ cl[j].2.2.1 cl[j].2.2.2] at this
    rw [pcells_get r.pend hfull j i hj hi, e]; exact hv
  refine (callsIn_wide (n := 4)).1 ?_
  rcases hown.2 with ⟨rfl, hz⟩ | ⟨g, cap, cur, rfl, _, hg, hnc, hcm, hcs, htake⟩
  · have hcz : cl.length = 0 := by rw [← List.length_map (f := fun x => x.1), hcl, hpl]; exact hz
    have := crash_in Fence.wide 4 trivial trivial trivial rfl (Nat.le_refl _) w0 g2 o sb n mask (w0.heap.size + 1) cs r none 0 0 cl hb2 c0 c1 c3 hsb hfit hcl hz (by omega) (fun h => absurd h (by omega)) (by omega) (by omega) (by omega) hne (fun j h => absurd h (by omega))
    exact this
  · have hgl2 := Blk.lt hg
    have hgn := np g rfl
    refine crash_in Fence.wide 4 trivial trivial trivial rfl (Nat.le_refl _) w0 g2 o sb n mask g cs r (some ⟨g, 0, none⟩) r.ws.length cap cl hb2 c0 c1 c3 hsb hfit hcl rfl hlen2 (fun _ => ⟨rfl, hgl2⟩) (by omega) hgn.2 hgn.1 hne (fun j h i v hv => ?_)
    have h5 := hget j h i v hv
    rw [← htake, List.getElem?_take] at h5
    split at h5
    · exact Blk.cell hg (j * 129 + i) v (by simpa using h5)
    · cases h5
end Go.Proofs.Ythlclhfepnmaeaa
