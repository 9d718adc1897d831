/-
  The walk of DiskCopies.
-/
import Derived.Test.YtjlfepmdnphenaaFit
import Derived.Test.YtjlfepmdnphenaaSpec
import Derived.Test.YtjlfepmdnphenaaConv
namespace Go.Proofs.Ytjlfepmdnphenaa
open Go.RowKit

def C0 : Ds := ⟨8, [Rg.new 8], 0⟩
def C1 (s : Nat) (l : List UInt8) : Ds := C0.write 0 (Rg.new 8) s (pad l)
def C2 (s : Nat) (l : List UInt8) : Ds := (C1 s l).barrier 0 ((Rg.new 8).write s (pad l))
theorem c1_rd (s : Nat) (hs : s < 8) (l : List UInt8) : (C1 s l).rd? 0 (s : Int) = some (pad l) := by
  have h : (C1 s l).at? 0 = some ((Rg.new 8).write s (pad l)) := rfl
  rw [rd_some h (by omega) (by show (s : Int) < ((8 : Nat) : Int); omega), Rg.secs_write, Int.toNat_natCast, List.getElem?_set_self]
  show s < (put (List.replicate 8 zsec) []).length
  rw [put_length]; simpa using hs
theorem c2_rd (s : Nat) (hs : s < 8) (l : List UInt8) : (C2 s l).rd? 0 (s : Int) = some (pad l) := by
  have h : (C2 s l).at? 0 = some ((Rg.new 8).write s (pad l)).barrier := rfl
  rw [rd_some h (by omega) (by show (s : Int) < ((8 : Nat) : Int); omega)]
  show (put ((Rg.new 8).write s (pad l)).secs [])[(s : Int).toNat]? = _
  rw [put_nil, Rg.secs_write, Int.toNat_natCast, List.getElem?_set_self]
  show s < (put (List.replicate 8 zsec) []).length
  rw [put_length]; simpa using hs
section
variable {w : World} {X : Nat → Prop} {g s : Nat} {l : List UInt8}
theorem cp_new (h : Many w X []) : Calls Try.prog 12 #[.int .i64 1, .int .i64 8] w fun e w' => ∃ g, e = .returned (ptr g) ∧ Many w' X [(g, C0)] ∧ Below w.heap.size w w' :=
  new_many h 1 8 (by omega) (by omega) (by omega) (by omega)
theorem cp_write (h : Many w X [(g, C0)]) (hs : s < 8) (A : Option Addr) (n c : Nat) (hn : l.length = n) (h64 : n ≤ 64) (hv : Rd w (.slice A n c) (u8s l)) :
    Calls Try.prog 13 #[ptr g, .int .i64 0, .int .i64 (s : Int), .slice A n c] w fun e w' => e = .returned (.int .i64 0) ∧ Many w' X [(g, C1 s l)] ∧ Out X w w' := by
  subst hn
  have hh := wr_ok (d := C0) (r := 0) (s := (s : Int)) (g := Rg.new 8) (b := l) rfl (by omega) (by show (s : Int) < ((8 : Nat) : Int); omega) h64 rfl
  have := write_many (i := 0) h rfl ((Small.new 1 8).more (by omega)) 0 (s : Int) A c l hv
  rw [hh.1, hh.2] at this
  exact this
theorem cp_read1 (h : Many w X [(g, C1 s l)]) (hs : s < 8) : Calls Try.prog 18 #[ptr g, .int .i64 0, .int .i64 (s : Int)] w fun e w' => e = .returned (.tuple #[.slice (some ⟨w.heap.size, 0, none⟩) 64 64, .int .i64 0]) ∧ (pad l).length = 64 ∧ Blk w' w.heap.size 5 (blk8 (pad l)) ∧ Many w' X [(g, C1 s l)] ∧ Below w.heap.size w w' :=
  read_many (i := 0) h rfl 0 (s : Int) (c1_rd s hs l)
theorem cp_bar (h : Many w X [(g, C1 s l)]) : Calls Try.prog 15 #[ptr g, .int .i64 0] w fun e w' => e = .returned (.int .i64 0) ∧ Many w' X [(g, C2 s l)] ∧ Out X w w' :=
  barrier_many (i := 0) h rfl 0
theorem cp_read2 (h : Many w X [(g, C2 s l)]) (hs : s < 8) : Calls Try.prog 18 #[ptr g, .int .i64 0, .int .i64 (s : Int)] w fun e w' => e = .returned (.tuple #[.slice (some ⟨w.heap.size, 0, none⟩) 64 64, .int .i64 0]) ∧ (pad l).length = 64 ∧ Blk w' w.heap.size 5 (blk8 (pad l)) ∧ Many w' X [(g, C2 s l)] ∧ Below w.heap.size w w' :=
  read_many (i := 0) h rfl 0 (s : Int) (c2_rd s hs l)
end
theorem set_cells {w : World} {g : Nat} {t : TypeId} {cs : Array Value} (h : Blk w g t cs) (i : Nat) (u : Value) {n : Nat} (hall : ∀ j, j < n → ∃ z, cs[j]? = some (.int .u8 z)) (hu : ∃ z, u = .int .u8 z) :
    ∃ cs', Blk (w.setCell ⟨g, i, none⟩ u) g t cs' ∧ ∀ j, j < n → ∃ z, cs'[j]? = some (.int .u8 z) := by
  refine ⟨_, h.set_ i u, fun j hj => ?_⟩
  rw [Array.getElem?_setIfInBounds]
  obtain ⟨z, hz⟩ := hall j hj
  by_cases e : i = j
  · subst e
    have : i < cs.size := (Array.getElem?_eq_some_iff.1 hz).1
    obtain ⟨y, rfl⟩ := hu
    rw [if_pos rfl, if_pos this]
    exact ⟨y, rfl⟩
  · rw [if_neg e]
    exact ⟨z, hz⟩

/-- Blocks that are none of the disk's. -/
def copiesX (w : World) (A : Option Addr) : Nat → Prop := fun k => k < w.heap.size ∨ A.map (·.block) = some k
/-- The copy's cells, if there are any. -/
def MineAt (w : World) (A : Option Addr) (n : Nat) : Prop := 0 < n → ∃ ga cs, A = some ⟨ga, 0, none⟩ ∧ ga < w.heap.size ∧ Blk w ga 5 cs ∧ ∀ j, j < n → ∃ z, cs[j]? = some (.int .u8 z)
theorem copies_more {w w2 w3 : World} {l : List (Nat × Ds)} {A : Option Addr} {n c : Nat} {xs : List Value} (h : Many w2 (fun k => k < w.heap.size) l) (hb : Below w2.heap.size w2 w3) (ho : w3.ownsRow w2.heap.size 5 1 (.slice A n c) n xs) : Many w3 (copiesX w A) l := by
  refine h.more hb (fun k hk => ?_)
  rcases hk with hk | hk
  · exact .inl hk
  · right
    rcases ho.2 with ⟨e, _⟩ | ⟨g, cap, cur, e, hg, hh, _⟩
    · injection e with e; rw [e] at hk; cases hk
    · injection e with e
      rw [e] at hk
      injection hk with hk
      have hk' : g = k := hk
      subst hk'
      exact ⟨hg, Blk.lt hh⟩
theorem copies_cells {w w3 w4 : World} {B n c : Nat} {A : Option Addr} {l : List UInt8} (ho : w3.ownsRow B 5 1 (.slice A n c) n (u8s l)) (h4 : Out (copiesX w A) w3 w4) : MineAt w4 A n := by
  intro hn
  rcases ho.2 with ⟨_, e⟩ | ⟨g, cap, cur, e, hg, hh, _, _, _, htake⟩
  · omega
  · injection e with e
    subst e
    have hb : Blk w4 g 5 cur := h4.blk hh (.inr rfl)
    refine ⟨g, cur, rfl, hb.lt, hb, fun j hj => ?_⟩
    have hl : (u8s l).length = n := by have := ho.1; omega
    have hjl : j < l.length := by rw [u8s_length] at hl; omega
    obtain ⟨z, h1⟩ : ∃ z, (u8s l)[j]? = some (.int .u8 z) := ⟨_, u8s_get l j hjl⟩
    rw [← htake, List.getElem?_take] at h1
    split at h1
    · exact ⟨_, by simpa using h1⟩
    · cases h1

set_option maxRecDepth 100000 in
set_option maxHeartbeats 8000000 in
/-- Behind the cut: b has N bytes at most 64. -/
theorem copies_walk (v : Value) (l0 : List UInt8) (s0 : Int) (w : World) (hm0 : l0.length ≤ maxLen) (hv0 : Rd w v (u8s l0)) (_ : (Lit.int .i64 s0).wf = true) :
    Calls Try.prog 8 #[v, .int .i64 s0] w fun e w' => e = .returned (.bool true) ∧ Below w.heap.size w w' := by
  obtain ⟨s, hs, es⟩ := and7 s0
  obtain ⟨A, c, rfl, hc0, _⟩ := id hv0
  rw [u8s_length] at hv0 hc0 ⊢
  obtain ⟨i0, hi, hz0, hz1, hz2⟩ := info_parts info8
  unfold maxLen at hm0
  by_cases hlong : 64 < l0.length
  · obtain ⟨l, hl⟩ : ∃ l, l0.take 64 = l := ⟨_, rfl⟩
    have hlow0 := fun W => run_low (P := Try.prog) slice8 size8 A l0.length c 64 (by omega) W
    have hlow : ∀ W, (Instr.slice 33 (.slice A l0.length c) none (some (.int .i64 64)) none).run Try.prog W = .ok (.slice A 64 c) W := hlow0
    clear hlow0
    have hv : Rd w (.slice A 64 c) (u8s l) := by rw [← hl]; exact Rd.low hv0 (by omega)
    have hln : l.length = 64 := by rw [← hl, List.length_take]; omega
    have hd1 : (64 : Int) < (l0.length : Int) := by omega
    have hPN : 64 ≤ 64 := Nat.le_refl _
    clear hl hv0
    have HLN := hide hln
    have HV := hide hv
    have HPN := hide hln
    have HC0 := hide hc0
    clear hln hv hc0
    go_enter Try.func8, Try.ntmps8
    go_wp2_with (first
      | (go_at_call 11; refine (fit_any _).mono ?_; rintro e w1 ⟨rfl, hb1⟩; have HM0 := hide (show Many w1 (fun k => k < w.heap.size) [] from Many.nil (fun k h => Nat.lt_of_lt_of_le h hb1.size)); have HB1 := hide hb1; clear hb1)
      | (go_at_call 12; refine (cp_new HM0.out).mono ?_; rintro e w2 ⟨g, rfl, hm2, hb2⟩; have HM2 := hide hm2; have HB2 := hide (HB1.out.trans (hb2.mono HB1.out.size)); have HR2 := hide (Row.below HV.out (HB1.out.trans (hb2.mono HB1.out.size))); have HS2 := hide (show Rd w2 (.slice A 64 c) (u8s l) from Row.more (Row.below HV.out (HB1.out.trans (hb2.mono HB1.out.size))) (HB1.out.trans (hb2.mono HB1.out.size)).size); clear hm2 hb2)
      | (at_builtin; refine wpList_append_rd rfl (.const (.slice none 0 0)) (.tmp 25) 33 rfl (base := w2.heap.size) 5 i0 (.int .u8 0) 1 Try.underlying33 hi hz0 hz1 hz2 rfl (.slice none 0 0) 0 [] rfl (own_nil _ _ _) (.slice A 64 c) (u8s l) rfl HS2.out (oneCell_u8s l) (by rw [u8s_length, HLN.out]; unfold maxLen; omega) (by rw [u8s_length, HLN.out]; omega) (Nat.le_refl _) ?_; intro v3 w3 hown3 hgr3 hat3; rw [List.nil_append, Nat.zero_add, u8s_length, HLN.out] at hown3; obtain ⟨A3, c3, rfl⟩ := own_form hown3; have HO3 := hide hown3; have HB3 := hide (show Below w2.heap.size w2 w3 from ⟨hgr3.os, hgr3.tape, hgr3.output, hgr3.size, fun k hk => hgr3.block k hk (by intro e; cases e)⟩); have HAT := hide hat3; clear hown3 hgr3 hat3; have HM3 := hide (copies_more HM2.out HB3.out HO3.out); clear HM2)
      | (go_at_call 13; refine (cp_write (l := l) HM3.out hs A3 64 c3 HLN.out hPN (own_rd HO3.out)).mono ?_; rintro e w4 ⟨rfl, hm4, ho4⟩; have HM4 := hide hm4; have HO4 := hide ho4; have HC4 := hide (copies_cells HO3.out ho4); clear hm4 ho4))
    go_loopw [33] (fun i wr => ∃ k : Nat, k ≤ 64 ∧ i = .int .i64 k ∧ Many wr (copiesX w A3) [(g, C1 s l)] ∧ MineAt wr A3 64 ∧ Below w.heap.size w wr) (fun i _ => 64 - (intOf i).toNat)
    case atStart => exact ⟨0, Nat.zero_le _, rfl, HM4.out, HC4.out, (HB2.out.trans (HB3.out.mono HB2.out.size)).trans (HO4.out.below (Nat.le_trans HB2.out.size HB3.out.size) (fun _ h => .inl h))⟩
    case round =>
      obtain ⟨k, hk, rfl, hm, hmine, hb⟩ := hrel
      by_cases hlt : k < 64
      · obtain ⟨ga, cs, rfl, hga, hblk, hall⟩ := hmine (by omega)
        obtain ⟨z, hz⟩ := hall k hlt
        have hcell := hblk.cell k _ hz
        have hfr := hblk.frozen k
        have hk0 : (0 : Int) ≤ (k : Int) := by omega
        have hk1 : (k : Int) < (64 : Int) := by omega
        have HM := hide hm
        have HB := hide hb
        have HBLK := hide hblk
        have HALL := hide hall
        have HGA := hide (show w.heap.size ≤ ga from by
          rcases HAT.out with h | h
          · cases h
          · injection h with h
            have h2 : ga = w2.heap.size := h
            rw [h2]; exact HB2.out.size)
        clear hm hb hmine hblk hall hga hz
        go_wp2
        go_round
        case rel =>
          refine ⟨k + 1, by omega, by go_num, HM.out.foreign (Kept.setCell wr ⟨ga, k, none⟩ _) (fun j hj => .inl (.inr (by rw [show j = ga from hj]; rfl))), fun _ => ?_, HB.out.setCell (p := ⟨ga, k, none⟩) HGA.out _⟩
          obtain ⟨cs', h1, h2⟩ := set_cells HBLK.out k _ HALL.out ⟨_, rfl⟩
          exact ⟨ga, cs', rfl, h1.lt, h1, h2⟩
        case measure => simp [intOf]; omega
      · have hkN : 64 = k := by omega
        subst hkN
        have HM := hide hm
        have HB := hide hb
        clear hm hb hmine
        go_wp2_with (go_at_call 18; refine (cp_read1 HM.out hs).mono ?_; rintro e w5 ⟨rfl, hp64, hx5, hm5, hb5⟩; have HX5 := hide hx5; have HM5 := hide hm5; have HB5 := hide hb5; have HP := hide hp64; have HPR := hide (show Rd w5 (.slice A 64 c) (u8s l) from Rd.below (Rd.below HV.out HB.out) hb5); clear hx5 hm5 hb5 hp64)
        refine region_phases (ops := _) (valV [some (.slice A 64 c), some (.string ⟨l.toArray⟩), some (.slice A 64 c), some (.int .i64 (64 : Int)), some (.int .i64 (((64 - 64) : Nat) : Int)), none, some (.string ⟨(List.replicate (64 - 64) (0 : UInt8)).toArray⟩), some (.string ⟨(pad l).toArray⟩), some (.string ⟨(pad l).toArray⟩)]) (phased [⟨5, 5, fun v w => (∃ g, v = .slice (some ⟨g, 0, none⟩) (64 - 64) (64 - 64) ∧ Blk w g 5 (blk8 (List.replicate (64 - 64) 0))) ∧ Abv w5 w⟩] (fun w => Abv w5 w)) (by kernel_rfl) (by kernel_rfl) (by kernel_rfl) (by kernel_rfl) (phased_ext (by kernel_rfl)) ?_ ?_ ?_
        · exact (Abv.refl _).drew
        · intro i o ho L a w2 hph hsz hLi hnot hyes old dep
          match i, ho with
          | 0, ho =>
            obtain rfl := Option.some.inj ho
            rw [if_pos (wanted_none rfl)]
            have o0 := old 0 (by kernel_rfl)
            refine wp_yields (v := .slice A 64 c) (w' := w2) ?_ (fun u hu => Option.some.inj (Option.some.inj hu)) (phased_quiet hLi (by rfl) hph)
            clear dep old ho hsz hph hnot hyes hLi
            go_simp
          | 1, ho =>
            obtain rfl := Option.some.inj ho
            rw [if_pos (wanted_none rfl)]
            have d0 : a.tmps.getD 49 undef = .slice A 64 c := dep 0 _ _ (by kernel_rfl) rfl rfl _ rfl
            have e0 : a.tmps[49]?.getD undef = .slice A 64 c := (Array.getD_eq_getD_getElem? ..).symm.trans d0
            have hA : Abv w5 w2 := phased_all (R := fun w => Abv w5 w) (fun q hq v w h => by simp only [List.mem_cons, List.not_mem_nil, or_false] at hq; rcases hq with rfl; exact h.2) (fun w h => h) hph
            have hcv := conv_rdn HPN.out (Rd.below HPR.out hA)
            refine wp_yields (v := .string ⟨l.toArray⟩) (w' := w2) ?_ (fun u hu => Option.some.inj (Option.some.inj hu)) (phased_quiet hLi (by rfl) hph)
            clear dep old ho hsz hph hA hnot hyes hLi
            go_simp
          | 2, ho =>
            obtain rfl := Option.some.inj ho
            rw [if_pos (wanted_none rfl)]
            have o0 := old 0 (by kernel_rfl)
            refine wp_yields (v := .slice A 64 c) (w' := w2) ?_ (fun u hu => Option.some.inj (Option.some.inj hu)) (phased_quiet hLi (by rfl) hph)
            clear dep old ho hsz hph hnot hyes hLi
            go_simp
          | 3, ho =>
            obtain rfl := Option.some.inj ho
            rw [if_pos (wanted_none rfl)]
            have d2 : a.tmps.getD 51 undef = .slice A 64 c := dep 2 _ _ (by kernel_rfl) rfl rfl _ rfl
            have e2 : a.tmps[51]?.getD undef = .slice A 64 c := (Array.getD_eq_getD_getElem? ..).symm.trans d2
            refine wp_yields (v := .int .i64 (64 : Int)) (w' := w2) ?_ (fun u hu => Option.some.inj (Option.some.inj hu)) (phased_quiet hLi (by rfl) hph)
            clear dep old ho hsz hph hnot hyes hLi
            go_simp
          | 4, ho =>
            obtain rfl := Option.some.inj ho
            rw [if_pos (wanted_none rfl)]
            have d3 : a.tmps.getD 52 undef = .int .i64 (64 : Int) := dep 3 _ _ (by kernel_rfl) rfl rfl _ rfl
            have e3 : a.tmps[52]?.getD undef = .int .i64 (64 : Int) := (Array.getD_eq_getD_getElem? ..).symm.trans d3
            have hz : (64 : Int) - (64 : Int) = (((64 - 64) : Nat) : Int) := by omega
            refine wp_yields (v := .int .i64 (((64 - 64) : Nat) : Int)) (w' := w2) ?_ (fun u hu => Option.some.inj (Option.some.inj hu)) (phased_quiet hLi (by rfl) hph)
            clear dep old ho hsz hph hnot hyes hLi
            have hb1 : (0 : Int) ≤ (64 : Int) := by omega
            have hb2 : (64 : Int) ≤ 64 := by omega
            rw [← hz]
            clear hz
            go_simp
            first | done | (rw [IntKind.wrap_i64]; omega) | rfl
          | 5, ho =>
            obtain rfl := Option.some.inj ho
            rw [if_pos (wanted_none rfl)]
            have d4 : a.tmps.getD 53 undef = .int .i64 (((64 - 64) : Nat) : Int) := dep 4 _ _ (by kernel_rfl) rfl rfl _ rfl
            have e4 : a.tmps[53]?.getD undef = .int .i64 (((64 - 64) : Nat) : Int) := (Array.getD_eq_getD_getElem? ..).symm.trans d4
            have hA : Abv w5 w2 := phased_first (fun p hp => by simp only [List.mem_cons, List.not_mem_nil, or_false] at hp; rcases hp with rfl; exact hLi) hph
            refine wp_yields (v := .slice (some ⟨w2.heap.size, 0, none⟩) (64 - 64) (64 - 64)) (w' := w2.alloc (.cells (blk8 (List.replicate (64 - 64) 0)) 5)) (exec_make rfl d4 (by omega)) (fun u hu => by cases Option.some.inj hu) ?_
            unfold phased
            rw [if_pos (by simp [also])]
            exact ⟨by simp [also], ⟨w2.heap.size, by simp [yielding], Blk.new_ w2 _ _ rfl⟩, hA.alloc _⟩
          | 6, ho =>
            obtain rfl := Option.some.inj ho
            rw [if_pos (wanted_none rfl)]
            unfold phased at hph
            rw [if_pos (hyes 5 (by kernel_rfl))] at hph
            have hph3 := hph
            obtain ⟨_, ⟨gz, eg, hgz⟩, hA⟩ := hph3
            have eg2 : a.tmps.getD 54 undef = .slice (some ⟨gz, 0, none⟩) (64 - 64) (64 - 64) := eg
            have eg3 : a.tmps[54]?.getD undef = .slice (some ⟨gz, 0, none⟩) (64 - 64) (64 - 64) := (Array.getD_eq_getD_getElem? ..).symm.trans eg2
            have hcv := conv_blk (64 - 64) (List.length_replicate ..) hgz
            refine wp_yields (v := .string ⟨(List.replicate (64 - 64) (0 : UInt8)).toArray⟩) (w' := w2) ?_ (fun u hu => Option.some.inj (Option.some.inj hu)) (phased_quiet hLi (by rfl) (by unfold phased; rw [if_pos (hyes 5 (by kernel_rfl))]; exact hph))
            clear dep old ho hsz hph eg eg2 hgz hA hnot hyes hLi
            go_simp
          | 7, ho =>
            obtain rfl := Option.some.inj ho
            rw [if_pos (wanted_none rfl)]
            have d1 : a.tmps.getD 50 undef = .string ⟨l.toArray⟩ := dep 1 _ _ (by kernel_rfl) rfl rfl _ rfl
            have e1 : a.tmps[50]?.getD undef = .string ⟨l.toArray⟩ := (Array.getD_eq_getD_getElem? ..).symm.trans d1
            have d6 : a.tmps.getD 55 undef = .string ⟨(List.replicate (64 - 64) (0 : UInt8)).toArray⟩ := dep 6 _ _ (by kernel_rfl) rfl rfl _ rfl
            have e6 : a.tmps[55]?.getD undef = .string ⟨(List.replicate (64 - 64) (0 : UInt8)).toArray⟩ := (Array.getD_eq_getD_getElem? ..).symm.trans d6
            have hpd : l ++ List.replicate (64 - 64) (0 : UInt8) = pad l := by unfold pad; rw [HPN.out]
            refine wp_yields (v := .string ⟨(l ++ List.replicate (64 - 64) (0 : UInt8)).toArray⟩) (w' := w2) (exec_add (x := .tmp 50) (y := .tmp 55) rfl d1 d6 (by rw [HPN.out, List.length_replicate]; omega)) (fun u hu => by rw [hpd]; exact Option.some.inj (Option.some.inj hu)) (phased_quiet hLi (by rfl) hph)
          | 8, ho =>
            obtain rfl := Option.some.inj ho
            rw [if_pos (wanted_none rfl)]
            have d7 : a.tmps.getD 56 undef = .string ⟨(pad l).toArray⟩ := dep 7 _ _ (by kernel_rfl) rfl rfl _ rfl
            have e7 : a.tmps[56]?.getD undef = .string ⟨(pad l).toArray⟩ := (Array.getD_eq_getD_getElem? ..).symm.trans d7
            refine wp_yields (v := .string ⟨(pad l).toArray⟩) (w' := w2) ?_ (fun u hu => Option.some.inj (Option.some.inj hu)) (phased_quiet hLi (by rfl) hph)
            clear dep old ho hsz hph hnot hyes hLi
            go_simp
          | i + 9, ho => exact absurd ho (by simp)
        · intro a w6 hph hsz hdf fin keep
          unfold phased at hph
          rw [if_pos rfl] at hph
          obtain ⟨_, _, hA⟩ := hph
          obtain ⟨tm, df⟩ := a
          have hx : tm = #[tm.getD 0 undef, tm.getD 1 undef, tm.getD 2 undef, tm.getD 3 undef, tm.getD 4 undef, tm.getD 5 undef, tm.getD 6 undef, tm.getD 7 undef, tm.getD 8 undef, tm.getD 9 undef, tm.getD 10 undef, tm.getD 11 undef, tm.getD 12 undef, tm.getD 13 undef, tm.getD 14 undef, tm.getD 15 undef, tm.getD 16 undef, tm.getD 17 undef, tm.getD 18 undef, tm.getD 19 undef, tm.getD 20 undef, tm.getD 21 undef, tm.getD 22 undef, tm.getD 23 undef, tm.getD 24 undef, tm.getD 25 undef, tm.getD 26 undef, tm.getD 27 undef, tm.getD 28 undef, tm.getD 29 undef, tm.getD 30 undef, tm.getD 31 undef, tm.getD 32 undef, tm.getD 33 undef, tm.getD 34 undef, tm.getD 35 undef, tm.getD 36 undef, tm.getD 37 undef, tm.getD 38 undef, tm.getD 39 undef, tm.getD 40 undef, tm.getD 41 undef, tm.getD 42 undef, tm.getD 43 undef, tm.getD 44 undef, tm.getD 45 undef, tm.getD 46 undef, tm.getD 47 undef, tm.getD 48 undef, tm.getD 49 undef, tm.getD 50 undef, tm.getD 51 undef, tm.getD 52 undef, tm.getD 53 undef, tm.getD 54 undef, tm.getD 55 undef, tm.getD 56 undef, tm.getD 57 undef, tm.getD 58 undef, tm.getD 59 undef, tm.getD 60 undef, tm.getD 61 undef, tm.getD 62 undef, tm.getD 63 undef, tm.getD 64 undef, tm.getD 65 undef, tm.getD 66 undef, tm.getD 67 undef, tm.getD 68 undef, tm.getD 69 undef, tm.getD 70 undef, tm.getD 71 undef, tm.getD 72 undef, tm.getD 73 undef, tm.getD 74 undef, tm.getD 75 undef, tm.getD 76 undef, tm.getD 77 undef, tm.getD 78 undef, tm.getD 79 undef, tm.getD 80 undef, tm.getD 81 undef, tm.getD 82 undef, tm.getD 83 undef, tm.getD 84 undef, tm.getD 85 undef, tm.getD 86 undef, tm.getD 87 undef, tm.getD 88 undef, tm.getD 89 undef, tm.getD 90 undef, tm.getD 91 undef, tm.getD 92 undef] := slots_of tm 93 hsz
          have kn10 : tm.getD 10 undef = .string ⟨(pad l).toArray⟩ := fin 8 _ _ rfl rfl _ rfl
          rw [kn10] at hx
          clear kn10
          generalize tm.getD 49 undef = y49 at hx
          generalize tm.getD 50 undef = y50 at hx
          generalize tm.getD 51 undef = y51 at hx
          generalize tm.getD 52 undef = y52 at hx
          generalize tm.getD 53 undef = y53 at hx
          generalize tm.getD 54 undef = y54 at hx
          generalize tm.getD 55 undef = y55 at hx
          generalize tm.getD 56 undef = y56 at hx
          rw [show tm.getD 0 undef = _ from keep 0 (by kernel_rfl)] at hx
          rw [show tm.getD 1 undef = _ from keep 1 (by kernel_rfl)] at hx
          rw [show tm.getD 2 undef = _ from keep 2 (by kernel_rfl)] at hx
          rw [show tm.getD 3 undef = _ from keep 3 (by kernel_rfl)] at hx
          rw [show tm.getD 4 undef = _ from keep 4 (by kernel_rfl)] at hx
          rw [show tm.getD 5 undef = _ from keep 5 (by kernel_rfl)] at hx
          rw [show tm.getD 6 undef = _ from keep 6 (by kernel_rfl)] at hx
          rw [show tm.getD 7 undef = _ from keep 7 (by kernel_rfl)] at hx
          rw [show tm.getD 8 undef = _ from keep 8 (by kernel_rfl)] at hx
          rw [show tm.getD 9 undef = _ from keep 9 (by kernel_rfl)] at hx
          rw [show tm.getD 11 undef = _ from keep 11 (by kernel_rfl)] at hx
          rw [show tm.getD 12 undef = _ from keep 12 (by kernel_rfl)] at hx
          rw [show tm.getD 13 undef = _ from keep 13 (by kernel_rfl)] at hx
          rw [show tm.getD 14 undef = _ from keep 14 (by kernel_rfl)] at hx
          rw [show tm.getD 15 undef = _ from keep 15 (by kernel_rfl)] at hx
          rw [show tm.getD 16 undef = _ from keep 16 (by kernel_rfl)] at hx
          rw [show tm.getD 17 undef = _ from keep 17 (by kernel_rfl)] at hx
          rw [show tm.getD 18 undef = _ from keep 18 (by kernel_rfl)] at hx
          rw [show tm.getD 19 undef = _ from keep 19 (by kernel_rfl)] at hx
          rw [show tm.getD 20 undef = _ from keep 20 (by kernel_rfl)] at hx
          rw [show tm.getD 21 undef = _ from keep 21 (by kernel_rfl)] at hx
          rw [show tm.getD 22 undef = _ from keep 22 (by kernel_rfl)] at hx
          rw [show tm.getD 23 undef = _ from keep 23 (by kernel_rfl)] at hx
          rw [show tm.getD 24 undef = _ from keep 24 (by kernel_rfl)] at hx
          rw [show tm.getD 25 undef = _ from keep 25 (by kernel_rfl)] at hx
          rw [show tm.getD 26 undef = _ from keep 26 (by kernel_rfl)] at hx
          rw [show tm.getD 27 undef = _ from keep 27 (by kernel_rfl)] at hx
          rw [show tm.getD 28 undef = _ from keep 28 (by kernel_rfl)] at hx
          rw [show tm.getD 29 undef = _ from keep 29 (by kernel_rfl)] at hx
          rw [show tm.getD 30 undef = _ from keep 30 (by kernel_rfl)] at hx
          rw [show tm.getD 31 undef = _ from keep 31 (by kernel_rfl)] at hx
          rw [show tm.getD 32 undef = _ from keep 32 (by kernel_rfl)] at hx
          rw [show tm.getD 33 undef = _ from keep 33 (by kernel_rfl)] at hx
          rw [show tm.getD 34 undef = _ from keep 34 (by kernel_rfl)] at hx
          rw [show tm.getD 35 undef = _ from keep 35 (by kernel_rfl)] at hx
          rw [show tm.getD 36 undef = _ from keep 36 (by kernel_rfl)] at hx
          rw [show tm.getD 37 undef = _ from keep 37 (by kernel_rfl)] at hx
          rw [show tm.getD 38 undef = _ from keep 38 (by kernel_rfl)] at hx
          rw [show tm.getD 39 undef = _ from keep 39 (by kernel_rfl)] at hx
          rw [show tm.getD 40 undef = _ from keep 40 (by kernel_rfl)] at hx
          rw [show tm.getD 41 undef = _ from keep 41 (by kernel_rfl)] at hx
          rw [show tm.getD 42 undef = _ from keep 42 (by kernel_rfl)] at hx
          rw [show tm.getD 43 undef = _ from keep 43 (by kernel_rfl)] at hx
          rw [show tm.getD 44 undef = _ from keep 44 (by kernel_rfl)] at hx
          rw [show tm.getD 45 undef = _ from keep 45 (by kernel_rfl)] at hx
          rw [show tm.getD 46 undef = _ from keep 46 (by kernel_rfl)] at hx
          rw [show tm.getD 47 undef = _ from keep 47 (by kernel_rfl)] at hx
          rw [show tm.getD 48 undef = _ from keep 48 (by kernel_rfl)] at hx
          rw [show tm.getD 57 undef = _ from keep 57 (by kernel_rfl)] at hx
          rw [show tm.getD 58 undef = _ from keep 58 (by kernel_rfl)] at hx
          rw [show tm.getD 59 undef = _ from keep 59 (by kernel_rfl)] at hx
          rw [show tm.getD 60 undef = _ from keep 60 (by kernel_rfl)] at hx
          rw [show tm.getD 61 undef = _ from keep 61 (by kernel_rfl)] at hx
          rw [show tm.getD 62 undef = _ from keep 62 (by kernel_rfl)] at hx
          rw [show tm.getD 63 undef = _ from keep 63 (by kernel_rfl)] at hx
          rw [show tm.getD 64 undef = _ from keep 64 (by kernel_rfl)] at hx
          rw [show tm.getD 65 undef = _ from keep 65 (by kernel_rfl)] at hx
          rw [show tm.getD 66 undef = _ from keep 66 (by kernel_rfl)] at hx
          rw [show tm.getD 67 undef = _ from keep 67 (by kernel_rfl)] at hx
          rw [show tm.getD 68 undef = _ from keep 68 (by kernel_rfl)] at hx
          rw [show tm.getD 69 undef = _ from keep 69 (by kernel_rfl)] at hx
          rw [show tm.getD 70 undef = _ from keep 70 (by kernel_rfl)] at hx
          rw [show tm.getD 71 undef = _ from keep 71 (by kernel_rfl)] at hx
          rw [show tm.getD 72 undef = _ from keep 72 (by kernel_rfl)] at hx
          rw [show tm.getD 73 undef = _ from keep 73 (by kernel_rfl)] at hx
          rw [show tm.getD 74 undef = _ from keep 74 (by kernel_rfl)] at hx
          rw [show tm.getD 75 undef = _ from keep 75 (by kernel_rfl)] at hx
          rw [show tm.getD 76 undef = _ from keep 76 (by kernel_rfl)] at hx
          rw [show tm.getD 77 undef = _ from keep 77 (by kernel_rfl)] at hx
          rw [show tm.getD 78 undef = _ from keep 78 (by kernel_rfl)] at hx
          rw [show tm.getD 79 undef = _ from keep 79 (by kernel_rfl)] at hx
          rw [show tm.getD 80 undef = _ from keep 80 (by kernel_rfl)] at hx
          rw [show tm.getD 81 undef = _ from keep 81 (by kernel_rfl)] at hx
          rw [show tm.getD 82 undef = _ from keep 82 (by kernel_rfl)] at hx
          rw [show tm.getD 83 undef = _ from keep 83 (by kernel_rfl)] at hx
          rw [show tm.getD 84 undef = _ from keep 84 (by kernel_rfl)] at hx
          rw [show tm.getD 85 undef = _ from keep 85 (by kernel_rfl)] at hx
          rw [show tm.getD 86 undef = _ from keep 86 (by kernel_rfl)] at hx
          rw [show tm.getD 87 undef = _ from keep 87 (by kernel_rfl)] at hx
          rw [show tm.getD 88 undef = _ from keep 88 (by kernel_rfl)] at hx
          rw [show tm.getD 89 undef = _ from keep 89 (by kernel_rfl)] at hx
          rw [show tm.getD 90 undef = _ from keep 90 (by kernel_rfl)] at hx
          rw [show tm.getD 91 undef = _ from keep 91 (by kernel_rfl)] at hx
          rw [show tm.getD 92 undef = _ from keep 92 (by kernel_rfl)] at hx
          simp only [Array.getD_eq_getD_getElem?, List.getElem?_toArray, List.getElem?_cons_succ, List.getElem?_cons_zero, Option.getD_some] at hx
          dsimp only at hdf
          clear fin keep hsz
          subst hx hdf
          have hx6 : Blk w6 wr.heap.size 5 (blk8 (pad l)) := HX5.out.below hA
          have hcv6 := conv_blk 64 HP.out hx6
          have hcell6 := hx6.cell 0 _ (blk8_get (pad l) 0 (by rw [HP.out]; omega))
          have hfr6 := hx6.frozen 0
          have HK6 := hide (((Kept.of_below (S := fun k => k = wr.heap.size) HB5.out)).trans_same (Kept.of_below hA))
          have HA6 := hide hA
          clear hx6 hA
          go_wp2_with (first
            | (go_at_call 15; refine (cp_bar (l := l) (HM.out.foreign (HK6.out.trans_same (Kept.setCell w6 ⟨wr.heap.size, 0, none⟩ _)) (fun j hj => .inr (Nat.le_of_eq (show wr.heap.size = j from hj.symm))))).mono ?_; rintro e w7 ⟨rfl, hm7, ho7⟩; have HM7 := hide hm7; have HO7 := hide ho7; clear hm7 ho7)
            | (go_at_call 18; refine (cp_read2 HM7.out hs).mono ?_; rintro e w8 ⟨rfl, hp8, hx8, hm8, hb8⟩; have hcell8 := hx8.cell 1 _ (blk8_get (pad l) 1 (by rw [HP.out]; omega)); have hfr8 := hx8.frozen 1; have HB8 := hide hb8; have HMF := hide (fun u => HM7.out.foreign ((Kept.of_below (S := fun k => k = w7.heap.size) hb8).trans_same (Kept.setCell w8 ⟨w7.heap.size, 1, none⟩ u)) (fun j hj => .inr (Nat.le_of_eq (show w7.heap.size = j from hj.symm)))); clear hx8 hm8 hb8 hp8 HM7)
            | (go_at_call 18; refine (cp_read2 (l := l) (HMF.out _) hs).mono ?_; rintro e w9 ⟨rfl, hp9, hx9, hm9, hb9⟩; have hcv9 := conv_blk 64 HP.out hx9; rw [size_set] at hcv9; have HB9 := hide hb9; clear hx9 hm9 hb9 hp9))
          go_ret
          have b5 := HB.out.trans (HB5.out.mono HB.out.size)
          have b6 := b5.trans (Below.mono HA6.out b5.size)
          have b7 := (b6.setCell (p := ⟨wr.heap.size, 0, none⟩) HB.out.size _).trans (HO7.out.below (by rw [size_set]; exact b6.size) (fun _ h => .inl h))
          have b8 := b7.trans (HB8.out.mono b7.size)
          exact ⟨rfl, (b8.setCell (p := ⟨w7.heap.size, 1, none⟩) b7.size _).trans (HB9.out.mono (by rw [size_set]; exact b8.size))⟩
  · have hv := hv0
    have hln : l0.length = l0.length := rfl
    have hd1 : decide ((64 : Int) < (l0.length : Int)) = false := by simp; omega
    have hPN : l0.length ≤ 64 := by omega
    obtain ⟨l, hl⟩ : ∃ l, l = l0 := ⟨_, rfl⟩
    rw [← hl] at hv hln hv0 hPN hd1 hlong ⊢
    obtain ⟨N, hN⟩ : ∃ N, l.length = N := ⟨_, rfl⟩
    rw [hN] at hv hv0 hPN hd1 hlong ⊢
    replace hln := hN
    clear hl hN hv0 hlong
    have HLN := hide hln
    have HV := hide hv
    have HPN := hide hln
    have HC0 := hide hc0
    clear hln hv hc0
    go_enter Try.func8, Try.ntmps8
    go_wp2_with (first
      | (go_at_call 11; refine (fit_any _).mono ?_; rintro e w1 ⟨rfl, hb1⟩; have HM0 := hide (show Many w1 (fun k => k < w.heap.size) [] from Many.nil (fun k h => Nat.lt_of_lt_of_le h hb1.size)); have HB1 := hide hb1; clear hb1)
      | (go_at_call 12; refine (cp_new HM0.out).mono ?_; rintro e w2 ⟨g, rfl, hm2, hb2⟩; have HM2 := hide hm2; have HB2 := hide (HB1.out.trans (hb2.mono HB1.out.size)); have HR2 := hide (Row.below HV.out (HB1.out.trans (hb2.mono HB1.out.size))); have HS2 := hide (show Rd w2 (.slice A N c) (u8s l) from Row.more (Row.below HV.out (HB1.out.trans (hb2.mono HB1.out.size))) (HB1.out.trans (hb2.mono HB1.out.size)).size); clear hm2 hb2)
      | (at_builtin; refine wpList_append_rd rfl (.const (.slice none 0 0)) (.tmp 25) 33 rfl (base := w2.heap.size) 5 i0 (.int .u8 0) 1 Try.underlying33 hi hz0 hz1 hz2 rfl (.slice none 0 0) 0 [] rfl (own_nil _ _ _) (.slice A N c) (u8s l) rfl HS2.out (oneCell_u8s l) (by rw [u8s_length, HLN.out]; unfold maxLen; omega) (by rw [u8s_length, HLN.out]; omega) (Nat.le_refl _) ?_; intro v3 w3 hown3 hgr3 hat3; rw [List.nil_append, Nat.zero_add, u8s_length, HLN.out] at hown3; obtain ⟨A3, c3, rfl⟩ := own_form hown3; have HO3 := hide hown3; have HB3 := hide (show Below w2.heap.size w2 w3 from ⟨hgr3.os, hgr3.tape, hgr3.output, hgr3.size, fun k hk => hgr3.block k hk (by intro e; cases e)⟩); have HAT := hide hat3; clear hown3 hgr3 hat3; have HM3 := hide (copies_more HM2.out HB3.out HO3.out); clear HM2)
      | (go_at_call 13; refine (cp_write (l := l) HM3.out hs A3 N c3 HLN.out hPN (own_rd HO3.out)).mono ?_; rintro e w4 ⟨rfl, hm4, ho4⟩; have HM4 := hide hm4; have HO4 := hide ho4; have HC4 := hide (copies_cells HO3.out ho4); clear hm4 ho4))
    go_loopw [33] (fun i wr => ∃ k : Nat, k ≤ N ∧ i = .int .i64 k ∧ Many wr (copiesX w A3) [(g, C1 s l)] ∧ MineAt wr A3 N ∧ Below w.heap.size w wr) (fun i _ => N - (intOf i).toNat)
    case atStart => exact ⟨0, Nat.zero_le _, rfl, HM4.out, HC4.out, (HB2.out.trans (HB3.out.mono HB2.out.size)).trans (HO4.out.below (Nat.le_trans HB2.out.size HB3.out.size) (fun _ h => .inl h))⟩
    case round =>
      obtain ⟨k, hk, rfl, hm, hmine, hb⟩ := hrel
      by_cases hlt : k < N
      · obtain ⟨ga, cs, rfl, hga, hblk, hall⟩ := hmine (by omega)
        obtain ⟨z, hz⟩ := hall k hlt
        have hcell := hblk.cell k _ hz
        have hfr := hblk.frozen k
        have hk0 : (0 : Int) ≤ (k : Int) := by omega
        have hk1 : (k : Int) < (N : Int) := by omega
        have HM := hide hm
        have HB := hide hb
        have HBLK := hide hblk
        have HALL := hide hall
        have HGA := hide (show w.heap.size ≤ ga from by
          rcases HAT.out with h | h
          · cases h
          · injection h with h
            have h2 : ga = w2.heap.size := h
            rw [h2]; exact HB2.out.size)
        clear hm hb hmine hblk hall hga hz
        go_wp2
        go_round
        case rel =>
          refine ⟨k + 1, by omega, by go_num, HM.out.foreign (Kept.setCell wr ⟨ga, k, none⟩ _) (fun j hj => .inl (.inr (by rw [show j = ga from hj]; rfl))), fun _ => ?_, HB.out.setCell (p := ⟨ga, k, none⟩) HGA.out _⟩
          obtain ⟨cs', h1, h2⟩ := set_cells HBLK.out k _ HALL.out ⟨_, rfl⟩
          exact ⟨ga, cs', rfl, h1.lt, h1, h2⟩
        case measure => simp [intOf]; omega
      · have hkN : N = k := by omega
        subst hkN
        have HM := hide hm
        have HB := hide hb
        clear hm hb hmine
        go_wp2_with (go_at_call 18; refine (cp_read1 HM.out hs).mono ?_; rintro e w5 ⟨rfl, hp64, hx5, hm5, hb5⟩; have HX5 := hide hx5; have HM5 := hide hm5; have HB5 := hide hb5; have HP := hide hp64; have HPR := hide (show Rd w5 (.slice A N c) (u8s l) from Rd.below (Rd.below HV.out HB.out) hb5); clear hx5 hm5 hb5 hp64)
        refine region_phases (ops := _) (valV [some (.slice A N c), some (.string ⟨l.toArray⟩), some (.slice A N c), some (.int .i64 (N : Int)), some (.int .i64 (((64 - N) : Nat) : Int)), none, some (.string ⟨(List.replicate (64 - N) (0 : UInt8)).toArray⟩), some (.string ⟨(pad l).toArray⟩), some (.string ⟨(pad l).toArray⟩)]) (phased [⟨5, 5, fun v w => (∃ g, v = .slice (some ⟨g, 0, none⟩) (64 - N) (64 - N) ∧ Blk w g 5 (blk8 (List.replicate (64 - N) 0))) ∧ Abv w5 w⟩] (fun w => Abv w5 w)) (by kernel_rfl) (by kernel_rfl) (by kernel_rfl) (by kernel_rfl) (phased_ext (by kernel_rfl)) ?_ ?_ ?_
        · exact (Abv.refl _).drew
        · intro i o ho L a w2 hph hsz hLi hnot hyes old dep
          match i, ho with
          | 0, ho =>
            obtain rfl := Option.some.inj ho
            rw [if_pos (wanted_none rfl)]
            have o0 := old 0 (by kernel_rfl)
            refine wp_yields (v := .slice A N c) (w' := w2) ?_ (fun u hu => Option.some.inj (Option.some.inj hu)) (phased_quiet hLi (by rfl) hph)
            clear dep old ho hsz hph hnot hyes hLi
            go_simp
          | 1, ho =>
            obtain rfl := Option.some.inj ho
            rw [if_pos (wanted_none rfl)]
            have d0 : a.tmps.getD 49 undef = .slice A N c := dep 0 _ _ (by kernel_rfl) rfl rfl _ rfl
            have e0 : a.tmps[49]?.getD undef = .slice A N c := (Array.getD_eq_getD_getElem? ..).symm.trans d0
            have hA : Abv w5 w2 := phased_all (R := fun w => Abv w5 w) (fun q hq v w h => by simp only [List.mem_cons, List.not_mem_nil, or_false] at hq; rcases hq with rfl; exact h.2) (fun w h => h) hph
            have hcv := conv_rdn HPN.out (Rd.below HPR.out hA)
            refine wp_yields (v := .string ⟨l.toArray⟩) (w' := w2) ?_ (fun u hu => Option.some.inj (Option.some.inj hu)) (phased_quiet hLi (by rfl) hph)
            clear dep old ho hsz hph hA hnot hyes hLi
            go_simp
          | 2, ho =>
            obtain rfl := Option.some.inj ho
            rw [if_pos (wanted_none rfl)]
            have o0 := old 0 (by kernel_rfl)
            refine wp_yields (v := .slice A N c) (w' := w2) ?_ (fun u hu => Option.some.inj (Option.some.inj hu)) (phased_quiet hLi (by rfl) hph)
            clear dep old ho hsz hph hnot hyes hLi
            go_simp
          | 3, ho =>
            obtain rfl := Option.some.inj ho
            rw [if_pos (wanted_none rfl)]
            have d2 : a.tmps.getD 51 undef = .slice A N c := dep 2 _ _ (by kernel_rfl) rfl rfl _ rfl
            have e2 : a.tmps[51]?.getD undef = .slice A N c := (Array.getD_eq_getD_getElem? ..).symm.trans d2
            refine wp_yields (v := .int .i64 (N : Int)) (w' := w2) ?_ (fun u hu => Option.some.inj (Option.some.inj hu)) (phased_quiet hLi (by rfl) hph)
            clear dep old ho hsz hph hnot hyes hLi
            go_simp
          | 4, ho =>
            obtain rfl := Option.some.inj ho
            rw [if_pos (wanted_none rfl)]
            have d3 : a.tmps.getD 52 undef = .int .i64 (N : Int) := dep 3 _ _ (by kernel_rfl) rfl rfl _ rfl
            have e3 : a.tmps[52]?.getD undef = .int .i64 (N : Int) := (Array.getD_eq_getD_getElem? ..).symm.trans d3
            have hz : (64 : Int) - (N : Int) = (((64 - N) : Nat) : Int) := by omega
            refine wp_yields (v := .int .i64 (((64 - N) : Nat) : Int)) (w' := w2) ?_ (fun u hu => Option.some.inj (Option.some.inj hu)) (phased_quiet hLi (by rfl) hph)
            clear dep old ho hsz hph hnot hyes hLi
            have hb1 : (0 : Int) ≤ (N : Int) := by omega
            have hb2 : (N : Int) ≤ 64 := by omega
            rw [← hz]
            clear hz
            go_simp
            first | done | (rw [IntKind.wrap_i64]; omega) | rfl
          | 5, ho =>
            obtain rfl := Option.some.inj ho
            rw [if_pos (wanted_none rfl)]
            have d4 : a.tmps.getD 53 undef = .int .i64 (((64 - N) : Nat) : Int) := dep 4 _ _ (by kernel_rfl) rfl rfl _ rfl
            have e4 : a.tmps[53]?.getD undef = .int .i64 (((64 - N) : Nat) : Int) := (Array.getD_eq_getD_getElem? ..).symm.trans d4
            have hA : Abv w5 w2 := phased_first (fun p hp => by simp only [List.mem_cons, List.not_mem_nil, or_false] at hp; rcases hp with rfl; exact hLi) hph
            refine wp_yields (v := .slice (some ⟨w2.heap.size, 0, none⟩) (64 - N) (64 - N)) (w' := w2.alloc (.cells (blk8 (List.replicate (64 - N) 0)) 5)) (exec_make rfl d4 (by omega)) (fun u hu => by cases Option.some.inj hu) ?_
            unfold phased
            rw [if_pos (by simp [also])]
            exact ⟨by simp [also], ⟨w2.heap.size, by simp [yielding], Blk.new_ w2 _ _ rfl⟩, hA.alloc _⟩
          | 6, ho =>
            obtain rfl := Option.some.inj ho
            rw [if_pos (wanted_none rfl)]
            unfold phased at hph
            rw [if_pos (hyes 5 (by kernel_rfl))] at hph
            have hph3 := hph
            obtain ⟨_, ⟨gz, eg, hgz⟩, hA⟩ := hph3
            have eg2 : a.tmps.getD 54 undef = .slice (some ⟨gz, 0, none⟩) (64 - N) (64 - N) := eg
            have eg3 : a.tmps[54]?.getD undef = .slice (some ⟨gz, 0, none⟩) (64 - N) (64 - N) := (Array.getD_eq_getD_getElem? ..).symm.trans eg2
            have hcv := conv_blk (64 - N) (List.length_replicate ..) hgz
            refine wp_yields (v := .string ⟨(List.replicate (64 - N) (0 : UInt8)).toArray⟩) (w' := w2) ?_ (fun u hu => Option.some.inj (Option.some.inj hu)) (phased_quiet hLi (by rfl) (by unfold phased; rw [if_pos (hyes 5 (by kernel_rfl))]; exact hph))
            clear dep old ho hsz hph eg eg2 hgz hA hnot hyes hLi
            go_simp
          | 7, ho =>
            obtain rfl := Option.some.inj ho
            rw [if_pos (wanted_none rfl)]
            have d1 : a.tmps.getD 50 undef = .string ⟨l.toArray⟩ := dep 1 _ _ (by kernel_rfl) rfl rfl _ rfl
            have e1 : a.tmps[50]?.getD undef = .string ⟨l.toArray⟩ := (Array.getD_eq_getD_getElem? ..).symm.trans d1
            have d6 : a.tmps.getD 55 undef = .string ⟨(List.replicate (64 - N) (0 : UInt8)).toArray⟩ := dep 6 _ _ (by kernel_rfl) rfl rfl _ rfl
            have e6 : a.tmps[55]?.getD undef = .string ⟨(List.replicate (64 - N) (0 : UInt8)).toArray⟩ := (Array.getD_eq_getD_getElem? ..).symm.trans d6
            have hpd : l ++ List.replicate (64 - N) (0 : UInt8) = pad l := by unfold pad; rw [HPN.out]
            refine wp_yields (v := .string ⟨(l ++ List.replicate (64 - N) (0 : UInt8)).toArray⟩) (w' := w2) (exec_add (x := .tmp 50) (y := .tmp 55) rfl d1 d6 (by rw [HPN.out, List.length_replicate]; omega)) (fun u hu => by rw [hpd]; exact Option.some.inj (Option.some.inj hu)) (phased_quiet hLi (by rfl) hph)
          | 8, ho =>
            obtain rfl := Option.some.inj ho
            rw [if_pos (wanted_none rfl)]
            have d7 : a.tmps.getD 56 undef = .string ⟨(pad l).toArray⟩ := dep 7 _ _ (by kernel_rfl) rfl rfl _ rfl
            have e7 : a.tmps[56]?.getD undef = .string ⟨(pad l).toArray⟩ := (Array.getD_eq_getD_getElem? ..).symm.trans d7
            refine wp_yields (v := .string ⟨(pad l).toArray⟩) (w' := w2) ?_ (fun u hu => Option.some.inj (Option.some.inj hu)) (phased_quiet hLi (by rfl) hph)
            clear dep old ho hsz hph hnot hyes hLi
            go_simp
          | i + 9, ho => exact absurd ho (by simp)
        · intro a w6 hph hsz hdf fin keep
          unfold phased at hph
          rw [if_pos rfl] at hph
          obtain ⟨_, _, hA⟩ := hph
          obtain ⟨tm, df⟩ := a
          have hx : tm = #[tm.getD 0 undef, tm.getD 1 undef, tm.getD 2 undef, tm.getD 3 undef, tm.getD 4 undef, tm.getD 5 undef, tm.getD 6 undef, tm.getD 7 undef, tm.getD 8 undef, tm.getD 9 undef, tm.getD 10 undef, tm.getD 11 undef, tm.getD 12 undef, tm.getD 13 undef, tm.getD 14 undef, tm.getD 15 undef, tm.getD 16 undef, tm.getD 17 undef, tm.getD 18 undef, tm.getD 19 undef, tm.getD 20 undef, tm.getD 21 undef, tm.getD 22 undef, tm.getD 23 undef, tm.getD 24 undef, tm.getD 25 undef, tm.getD 26 undef, tm.getD 27 undef, tm.getD 28 undef, tm.getD 29 undef, tm.getD 30 undef, tm.getD 31 undef, tm.getD 32 undef, tm.getD 33 undef, tm.getD 34 undef, tm.getD 35 undef, tm.getD 36 undef, tm.getD 37 undef, tm.getD 38 undef, tm.getD 39 undef, tm.getD 40 undef, tm.getD 41 undef, tm.getD 42 undef, tm.getD 43 undef, tm.getD 44 undef, tm.getD 45 undef, tm.getD 46 undef, tm.getD 47 undef, tm.getD 48 undef, tm.getD 49 undef, tm.getD 50 undef, tm.getD 51 undef, tm.getD 52 undef, tm.getD 53 undef, tm.getD 54 undef, tm.getD 55 undef, tm.getD 56 undef, tm.getD 57 undef, tm.getD 58 undef, tm.getD 59 undef, tm.getD 60 undef, tm.getD 61 undef, tm.getD 62 undef, tm.getD 63 undef, tm.getD 64 undef, tm.getD 65 undef, tm.getD 66 undef, tm.getD 67 undef, tm.getD 68 undef, tm.getD 69 undef, tm.getD 70 undef, tm.getD 71 undef, tm.getD 72 undef, tm.getD 73 undef, tm.getD 74 undef, tm.getD 75 undef, tm.getD 76 undef, tm.getD 77 undef, tm.getD 78 undef, tm.getD 79 undef, tm.getD 80 undef, tm.getD 81 undef, tm.getD 82 undef, tm.getD 83 undef, tm.getD 84 undef, tm.getD 85 undef, tm.getD 86 undef, tm.getD 87 undef, tm.getD 88 undef, tm.getD 89 undef, tm.getD 90 undef, tm.getD 91 undef, tm.getD 92 undef] := slots_of tm 93 hsz
          have kn10 : tm.getD 10 undef = .string ⟨(pad l).toArray⟩ := fin 8 _ _ rfl rfl _ rfl
          rw [kn10] at hx
          clear kn10
          generalize tm.getD 49 undef = y49 at hx
          generalize tm.getD 50 undef = y50 at hx
          generalize tm.getD 51 undef = y51 at hx
          generalize tm.getD 52 undef = y52 at hx
          generalize tm.getD 53 undef = y53 at hx
          generalize tm.getD 54 undef = y54 at hx
          generalize tm.getD 55 undef = y55 at hx
          generalize tm.getD 56 undef = y56 at hx
          rw [show tm.getD 0 undef = _ from keep 0 (by kernel_rfl)] at hx
          rw [show tm.getD 1 undef = _ from keep 1 (by kernel_rfl)] at hx
          rw [show tm.getD 2 undef = _ from keep 2 (by kernel_rfl)] at hx
          rw [show tm.getD 3 undef = _ from keep 3 (by kernel_rfl)] at hx
          rw [show tm.getD 4 undef = _ from keep 4 (by kernel_rfl)] at hx
          rw [show tm.getD 5 undef = _ from keep 5 (by kernel_rfl)] at hx
          rw [show tm.getD 6 undef = _ from keep 6 (by kernel_rfl)] at hx
          rw [show tm.getD 7 undef = _ from keep 7 (by kernel_rfl)] at hx
          rw [show tm.getD 8 undef = _ from keep 8 (by kernel_rfl)] at hx
          rw [show tm.getD 9 undef = _ from keep 9 (by kernel_rfl)] at hx
          rw [show tm.getD 11 undef = _ from keep 11 (by kernel_rfl)] at hx
          rw [show tm.getD 12 undef = _ from keep 12 (by kernel_rfl)] at hx
          rw [show tm.getD 13 undef = _ from keep 13 (by kernel_rfl)] at hx
          rw [show tm.getD 14 undef = _ from keep 14 (by kernel_rfl)] at hx
          rw [show tm.getD 15 undef = _ from keep 15 (by kernel_rfl)] at hx
          rw [show tm.getD 16 undef = _ from keep 16 (by kernel_rfl)] at hx
          rw [show tm.getD 17 undef = _ from keep 17 (by kernel_rfl)] at hx
          rw [show tm.getD 18 undef = _ from keep 18 (by kernel_rfl)] at hx
          rw [show tm.getD 19 undef = _ from keep 19 (by kernel_rfl)] at hx
          rw [show tm.getD 20 undef = _ from keep 20 (by kernel_rfl)] at hx
          rw [show tm.getD 21 undef = _ from keep 21 (by kernel_rfl)] at hx
          rw [show tm.getD 22 undef = _ from keep 22 (by kernel_rfl)] at hx
          rw [show tm.getD 23 undef = _ from keep 23 (by kernel_rfl)] at hx
          rw [show tm.getD 24 undef = _ from keep 24 (by kernel_rfl)] at hx
          rw [show tm.getD 25 undef = _ from keep 25 (by kernel_rfl)] at hx
          rw [show tm.getD 26 undef = _ from keep 26 (by kernel_rfl)] at hx
          rw [show tm.getD 27 undef = _ from keep 27 (by kernel_rfl)] at hx
          rw [show tm.getD 28 undef = _ from keep 28 (by kernel_rfl)] at hx
          rw [show tm.getD 29 undef = _ from keep 29 (by kernel_rfl)] at hx
          rw [show tm.getD 30 undef = _ from keep 30 (by kernel_rfl)] at hx
          rw [show tm.getD 31 undef = _ from keep 31 (by kernel_rfl)] at hx
          rw [show tm.getD 32 undef = _ from keep 32 (by kernel_rfl)] at hx
          rw [show tm.getD 33 undef = _ from keep 33 (by kernel_rfl)] at hx
          rw [show tm.getD 34 undef = _ from keep 34 (by kernel_rfl)] at hx
          rw [show tm.getD 35 undef = _ from keep 35 (by kernel_rfl)] at hx
          rw [show tm.getD 36 undef = _ from keep 36 (by kernel_rfl)] at hx
          rw [show tm.getD 37 undef = _ from keep 37 (by kernel_rfl)] at hx
          rw [show tm.getD 38 undef = _ from keep 38 (by kernel_rfl)] at hx
          rw [show tm.getD 39 undef = _ from keep 39 (by kernel_rfl)] at hx
          rw [show tm.getD 40 undef = _ from keep 40 (by kernel_rfl)] at hx
          rw [show tm.getD 41 undef = _ from keep 41 (by kernel_rfl)] at hx
          rw [show tm.getD 42 undef = _ from keep 42 (by kernel_rfl)] at hx
          rw [show tm.getD 43 undef = _ from keep 43 (by kernel_rfl)] at hx
          rw [show tm.getD 44 undef = _ from keep 44 (by kernel_rfl)] at hx
          rw [show tm.getD 45 undef = _ from keep 45 (by kernel_rfl)] at hx
          rw [show tm.getD 46 undef = _ from keep 46 (by kernel_rfl)] at hx
          rw [show tm.getD 47 undef = _ from keep 47 (by kernel_rfl)] at hx
          rw [show tm.getD 48 undef = _ from keep 48 (by kernel_rfl)] at hx
          rw [show tm.getD 57 undef = _ from keep 57 (by kernel_rfl)] at hx
          rw [show tm.getD 58 undef = _ from keep 58 (by kernel_rfl)] at hx
          rw [show tm.getD 59 undef = _ from keep 59 (by kernel_rfl)] at hx
          rw [show tm.getD 60 undef = _ from keep 60 (by kernel_rfl)] at hx
          rw [show tm.getD 61 undef = _ from keep 61 (by kernel_rfl)] at hx
          rw [show tm.getD 62 undef = _ from keep 62 (by kernel_rfl)] at hx
          rw [show tm.getD 63 undef = _ from keep 63 (by kernel_rfl)] at hx
          rw [show tm.getD 64 undef = _ from keep 64 (by kernel_rfl)] at hx
          rw [show tm.getD 65 undef = _ from keep 65 (by kernel_rfl)] at hx
          rw [show tm.getD 66 undef = _ from keep 66 (by kernel_rfl)] at hx
          rw [show tm.getD 67 undef = _ from keep 67 (by kernel_rfl)] at hx
          rw [show tm.getD 68 undef = _ from keep 68 (by kernel_rfl)] at hx
          rw [show tm.getD 69 undef = _ from keep 69 (by kernel_rfl)] at hx
          rw [show tm.getD 70 undef = _ from keep 70 (by kernel_rfl)] at hx
          rw [show tm.getD 71 undef = _ from keep 71 (by kernel_rfl)] at hx
          rw [show tm.getD 72 undef = _ from keep 72 (by kernel_rfl)] at hx
          rw [show tm.getD 73 undef = _ from keep 73 (by kernel_rfl)] at hx
          rw [show tm.getD 74 undef = _ from keep 74 (by kernel_rfl)] at hx
          rw [show tm.getD 75 undef = _ from keep 75 (by kernel_rfl)] at hx
          rw [show tm.getD 76 undef = _ from keep 76 (by kernel_rfl)] at hx
          rw [show tm.getD 77 undef = _ from keep 77 (by kernel_rfl)] at hx
          rw [show tm.getD 78 undef = _ from keep 78 (by kernel_rfl)] at hx
          rw [show tm.getD 79 undef = _ from keep 79 (by kernel_rfl)] at hx
          rw [show tm.getD 80 undef = _ from keep 80 (by kernel_rfl)] at hx
          rw [show tm.getD 81 undef = _ from keep 81 (by kernel_rfl)] at hx
          rw [show tm.getD 82 undef = _ from keep 82 (by kernel_rfl)] at hx
          rw [show tm.getD 83 undef = _ from keep 83 (by kernel_rfl)] at hx
          rw [show tm.getD 84 undef = _ from keep 84 (by kernel_rfl)] at hx
          rw [show tm.getD 85 undef = _ from keep 85 (by kernel_rfl)] at hx
          rw [show tm.getD 86 undef = _ from keep 86 (by kernel_rfl)] at hx
          rw [show tm.getD 87 undef = _ from keep 87 (by kernel_rfl)] at hx
          rw [show tm.getD 88 undef = _ from keep 88 (by kernel_rfl)] at hx
          rw [show tm.getD 89 undef = _ from keep 89 (by kernel_rfl)] at hx
          rw [show tm.getD 90 undef = _ from keep 90 (by kernel_rfl)] at hx
          rw [show tm.getD 91 undef = _ from keep 91 (by kernel_rfl)] at hx
          rw [show tm.getD 92 undef = _ from keep 92 (by kernel_rfl)] at hx
          simp only [Array.getD_eq_getD_getElem?, List.getElem?_toArray, List.getElem?_cons_succ, List.getElem?_cons_zero, Option.getD_some] at hx
          dsimp only at hdf
          clear fin keep hsz
          subst hx hdf
          have hx6 : Blk w6 wr.heap.size 5 (blk8 (pad l)) := HX5.out.below hA
          have hcv6 := conv_blk 64 HP.out hx6
          have hcell6 := hx6.cell 0 _ (blk8_get (pad l) 0 (by rw [HP.out]; omega))
          have hfr6 := hx6.frozen 0
          have HK6 := hide (((Kept.of_below (S := fun k => k = wr.heap.size) HB5.out)).trans_same (Kept.of_below hA))
          have HA6 := hide hA
          clear hx6 hA
          go_wp2_with (first
            | (go_at_call 15; refine (cp_bar (l := l) (HM.out.foreign (HK6.out.trans_same (Kept.setCell w6 ⟨wr.heap.size, 0, none⟩ _)) (fun j hj => .inr (Nat.le_of_eq (show wr.heap.size = j from hj.symm))))).mono ?_; rintro e w7 ⟨rfl, hm7, ho7⟩; have HM7 := hide hm7; have HO7 := hide ho7; clear hm7 ho7)
            | (go_at_call 18; refine (cp_read2 HM7.out hs).mono ?_; rintro e w8 ⟨rfl, hp8, hx8, hm8, hb8⟩; have hcell8 := hx8.cell 1 _ (blk8_get (pad l) 1 (by rw [HP.out]; omega)); have hfr8 := hx8.frozen 1; have HB8 := hide hb8; have HMF := hide (fun u => HM7.out.foreign ((Kept.of_below (S := fun k => k = w7.heap.size) hb8).trans_same (Kept.setCell w8 ⟨w7.heap.size, 1, none⟩ u)) (fun j hj => .inr (Nat.le_of_eq (show w7.heap.size = j from hj.symm)))); clear hx8 hm8 hb8 hp8 HM7)
            | (go_at_call 18; refine (cp_read2 (l := l) (HMF.out _) hs).mono ?_; rintro e w9 ⟨rfl, hp9, hx9, hm9, hb9⟩; have hcv9 := conv_blk 64 HP.out hx9; rw [size_set] at hcv9; have HB9 := hide hb9; clear hx9 hm9 hb9 hp9))
          go_ret
          have b5 := HB.out.trans (HB5.out.mono HB.out.size)
          have b6 := b5.trans (Below.mono HA6.out b5.size)
          have b7 := (b6.setCell (p := ⟨wr.heap.size, 0, none⟩) HB.out.size _).trans (HO7.out.below (by rw [size_set]; exact b6.size) (fun _ h => .inl h))
          have b8 := b7.trans (HB8.out.mono b7.size)
          exact ⟨rfl, (b8.setCell (p := ⟨w7.heap.size, 1, none⟩) b7.size _).trans (HB9.out.mono (by rw [size_set]; exact b8.size))⟩
end Go.Proofs.Ytjlfepmdnphenaa
