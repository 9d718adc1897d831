/-
  The walk of DiskSectors.
-/
import Derived.Test.YtjlfepmdnphenaaFit
import Derived.Test.YtjlfepmdnphenaaSpec
import Derived.Test.YtjlfepmdnphenaaConv
import Derived.Test.YtjlfepmdnphenaaArgs
namespace Go.Proofs.Ytjlfepmdnphenaa
open Go.RowKit

/-- The writes of the first k texts. -/
def sws (cs : List (Value × List UInt8)) (k : Nat) : List (Nat × Sec) := (cs.take k).map fun x => (0, pad x.2)
def Sd (cs : List (Value × List UInt8)) (k : Nat) : Ds := ⟨1, [⟨[zsec], sws cs k, false, 0⟩], k⟩
theorem sws_next (cs : List (Value × List UInt8)) (k : Nat) (h : k < cs.length) : sws cs (k + 1) = sws cs k ++ [(0, pad cs[k].2)] := by
  unfold sws
  rw [List.take_succ_eq_append_getElem h, List.map_append]
  rfl
theorem sws_length (cs : List (Value × List UInt8)) (k : Nat) (h : k ≤ cs.length) : (sws cs k).length = k := by simp [sws]; omega
/-- What a crash leaves of the sector. -/
def sleft (mask : Nat) (cs : List (Value × List UInt8)) (k : Nat) (W : Sec) : Prop := put [zsec] (kept (bitOf mask) (sws cs k)) = [W]
theorem sleft_next {mask k : Nat} {cs : List (Value × List UInt8)} {W : Sec} (h : sleft mask cs k W) (hk : k < cs.length) : sleft mask cs (k + 1) (if bitOf mask k then pad cs[k].2 else W) := by
  unfold sleft at h ⊢
  rw [sws_next cs k hk, kept_snoc, sws_length cs k (by omega)]
  cases bitOf mask k
  · simpa using h
  · simp only [if_true]
    rw [put_snoc, h]
    rfl
theorem bit_lt (mask k : Nat) (hk : k < 64) : bits .and .u64 ((mask : Int) / 2 ^ k) 1 = if bitOf mask k then 1 else 0 := by
  have := bit_at mask k
  rwa [Nat.mod_eq_of_lt hk] at this
section
variable {w : World} {X : Nat → Prop} {g k : Nat} {cs : List (Value × List UInt8)}
theorem sc_new (h : Many w X []) : Calls Try.prog 12 #[.int .i64 1, .int .i64 1] w fun e w' => ∃ g, e = .returned (ptr g) ∧ Many w' X [(g, Sd cs 0)] ∧ Below w.heap.size w w' :=
  new_many h 1 1 (by omega) (by omega) (by omega) (by omega)
theorem sc_write (h : Many w X [(g, Sd cs k)]) (hk : k < cs.length) (h60 : cs.length ≤ 60) (A : Option Addr) (n c : Nat) (hn : cs[k].2.length = n) (h64 : n ≤ 64) (hv : Rd w (.slice A n c) (u8s cs[k].2)) :
    Calls Try.prog 13 #[ptr g, .int .i64 0, .int .i64 0, .slice A n c] w fun e w' => e = .returned (.int .i64 0) ∧ Many w' X [(g, Sd cs (k + 1))] ∧ Out X w w' := by
  subst hn
  have hat : (Sd cs k).at? 0 = some ⟨[zsec], sws cs k, false, 0⟩ := rfl
  have hh := wr_ok (d := Sd cs k) (r := 0) (s := 0) (b := cs[k].2) hat (by omega) (by show (0 : Int) < ((1 : Nat) : Int); omega) h64 rfl
  have hs : Small (Sd cs k) 1000000 := ⟨by show k ≤ _; omega, fun r hr => by
    obtain rfl := List.mem_singleton.1 hr
    exact ⟨by show (sws cs k).length ≤ _; rw [sws_length cs k (by omega)]; omega, by show (0 : Nat) < _; decide⟩⟩
  have := write_many (i := 0) h rfl hs 0 0 A c cs[k].2 hv
  rw [hh.1, hh.2] at this
  have e : (Sd cs k).write (0 : Int).toNat ⟨[zsec], sws cs k, false, 0⟩ (0 : Int).toNat (pad cs[k].2) = Sd cs (k + 1) := by
    unfold Sd
    rw [sws_next cs k hk]
    rfl
  rw [e] at this
  exact this
theorem sc_crash (mask : Nat) (h : Many w X [(g, Sd cs cs.length)]) (h60 : cs.length ≤ 60) : Calls Try.prog 16 #[ptr g, .int .u64 (mask : Int)] w fun e w' => e = .returned (.tuple #[]) ∧ Many w' X [(g, (Sd cs cs.length).crash (bitOf mask))] ∧ Out X w w' := by
  have hs : Small (Sd cs cs.length) 1000000 := ⟨by show cs.length ≤ _; omega, fun r hr => by
    obtain rfl := List.mem_singleton.1 hr
    exact ⟨by show (sws cs cs.length).length ≤ _; rw [sws_length cs _ (Nat.le_refl _)]; omega, by show (0 : Nat) < _; decide⟩⟩
  exact crash_many (i := 0) h rfl hs mask
theorem sc_read {mask : Nat} {W : Sec} (h : Many w X [(g, (Sd cs cs.length).crash (bitOf mask))]) (hW : sleft mask cs cs.length W) : Calls Try.prog 18 #[ptr g, .int .i64 0, .int .i64 0] w fun e w' => e = .returned (.tuple #[.slice (some ⟨w.heap.size, 0, none⟩) 64 64, .int .i64 0]) ∧ W.length = 64 ∧ Blk w' w.heap.size 5 (blk8 W) ∧ Many w' X [(g, (Sd cs cs.length).crash (bitOf mask))] ∧ Below w.heap.size w w' := by
  refine read_many (i := 0) h rfl 0 0 ?_
  have hat : ((Sd cs cs.length).crash (bitOf mask)).at? 0 = some (Rg.crash (bitOf mask) ⟨[zsec], sws cs cs.length, false, 0⟩) := rfl
  rw [rd_some hat (by omega) (by show (0 : Int) < ((1 : Nat) : Int); omega)]
  show (put (put [zsec] (kept (bitOf mask) (sws cs cs.length))) [])[(0 : Int).toNat]? = some W
  rw [put_nil, hW]
  rfl
end

theorem sc_row {w w3 : World} {A : Option Addr} {c n k : Nat} {cs : List (Value × List UInt8)} {xv : Value} {xl : List UInt8} (hv : RowsRow w w.heap.size (.slice A n c) cs) (hk : k < cs.length) (hx : cs[k] = (xv, xl)) (hb : Below w.heap.size w w3) : Rd w3 xv (u8s xl) := by
  obtain ⟨_, _, _, _, hall⟩ := hv
  have := (hall cs[k] (List.getElem_mem hk)).1
  rw [hx] at this
  exact Row.more (this.below hb) hb.size

set_option maxRecDepth 100000 in
set_option maxHeartbeats 8000000 in
theorem sectors_walk (v : Value) (cs : List (Value × List UInt8)) (mask0 : Int) (w : World) (hv : RowsRow w w.heap.size v cs) (wm : (Lit.int .u64 mask0).wf = true) :
    Calls Try.prog 10 #[v, .int .u64 mask0] w fun e w' => e = .returned (.bool true) ∧ Below w.heap.size w w' := by
  obtain ⟨mask, rfl, hmask⟩ := wf_u64 wm
  clear wm
  obtain ⟨A, c, rfl, _, _⟩ := id hv
  by_cases hlong : 60 < cs.length
  · have hl : (60 : Int) < (cs.length : Int) := by omega
    go_enter Try.func10, Try.ntmps10
    go_wp2_with (go_at_call 11; refine (fit_any _).mono ?_; rintro e w1 ⟨rfl, hb1⟩)
    go_ret
    exact ⟨rfl, hb1⟩
  have h60 : cs.length ≤ 60 := by omega
  have hl : decide ((60 : Int) < (cs.length : Int)) = false := by simp; omega
  have hmk0 := fun w => run_make8 (P := Try.prog) 33 5 Try.underlying33 info8 64 (by omega) w
  have hmk : ∀ w, (Instr.makeSlice 33 (.int .i64 64) (.int .i64 64)).run Try.prog w = .ok (.slice (some ⟨w.heap.size, 0, none⟩) 64 64) (w.alloc (.cells (blk8 zsec) 5)) := hmk0
  have hcz : ∀ w : World, (convert 33 9 (.slice (some ⟨w.heap.size, 0, none⟩) 64 64)).run Try.prog (w.alloc (.cells (blk8 zsec) 5)) = .ok (.string ⟨zsec.toArray⟩) (w.alloc (.cells (blk8 zsec) 5)) := fun w => conv_blk 64 rfl (Blk.new_ w _ _ rfl)
  obtain ⟨ZS, hZS⟩ : ∃ ZS : Sec, zsec = ZS := ⟨_, rfl⟩
  rw [hZS] at hmk hcz
  have HZ := hide hZS
  have HV := hide hv
  clear hmk0 hZS hv
  go_enter Try.func10, Try.ntmps10
  go_wp2_with (first
    | (go_at_call 11; refine (fit_any _).mono ?_; rintro e w1 ⟨rfl, hb1⟩; have HM0 := hide (show Many w1 (fun k => k < w.heap.size) [] from Many.nil (fun k h => Nat.lt_of_lt_of_le h hb1.size)); have HB1 := hide hb1; clear hb1)
    | (go_at_call 12; refine (sc_new (cs := cs) HM0.out).mono ?_; rintro e w2 ⟨g, rfl, hm2, hb2⟩; have HM2 := hide hm2; have HB2 := hide (HB1.out.trans (hb2.mono HB1.out.size)); clear hm2 hb2))
  clear hmk hcz
  go_loopw [6, 21] (fun u i wr => ∃ (k : Nat) (W : Sec), k ≤ cs.length ∧ i = .int .i64 k ∧ u = .string ⟨W.toArray⟩ ∧ sleft mask cs k W ∧ Many wr (fun k => k < w.heap.size) [(g, Sd cs k)] ∧ Below w.heap.size w wr) (fun _ i _ => cs.length - (intOf i).toNat)
  case atStart => exact ⟨0, ZS, Nat.zero_le _, rfl, rfl, by rw [← HZ.out]; rfl, HM2.out.alloc _, HB2.out.alloc HB2.out.size _⟩
  case round =>
    obtain ⟨k, W, hk, rfl, rfl, hW, hm, hb⟩ := hrel
    by_cases hlt : k < cs.length
    · obtain ⟨A', c', he, hcells, hall⟩ := HV.out
      injection he with e1 e2 e3
      subst e1
      subst e3
      obtain ⟨b, o, rfl, hbB, hcell⟩ := hcells (by omega)
      obtain ⟨hrow, hxl⟩ := hall cs[k] (List.getElem_mem hlt)
      have hc0 := (hb.cell (p := ⟨b, o + k, none⟩) hbB).trans (hcell k cs[k] (List.getElem?_eq_getElem hlt))
      obtain ⟨x, hx⟩ : ∃ x, cs[k] = x := ⟨_, rfl⟩
      have HX := hide hx
      rw [hx] at hrow hxl hc0
      obtain ⟨xv, xl⟩ := x
      dsimp only at hrow hxl hc0
      obtain ⟨A2, c2, rfl, hc2, _⟩ := id hrow
      rw [u8s_length] at hrow hc2 hc0
      obtain ⟨N, hN⟩ : ∃ N, xl.length = N := ⟨_, rfl⟩
      rw [hN] at hrow hxl hc0 hc2
      have HN := hide hN
      have HR := hide (show Rd wr (.slice A2 N c2) (u8s xl) from Row.more (hrow.below hb) hb.size)
      have HM := hide hm
      have HB := hide hb
      have HW := hide hW
      have hk0 : (0 : Int) ≤ (k : Int) := by omega
      have hk1 : (k : Int) < (cs.length : Int) := by omega
      have hk2 : (k : Int) < 60 := by omega
      have hbits := bit_lt mask k (by omega)
      unfold maxLen at hxl
      clear hx hN hrow hm hb hW hcell hall hcells
      by_cases hbig : 64 < N
      · have hb64 : (64 : Int) < (N : Int) := by omega
        clear hbits
        go_wp2
        go_ret
        exact ⟨rfl, HB.out⟩
      · have hPN : N ≤ 64 := by omega
        have hb64 : decide ((64 : Int) < (N : Int)) = false := by simp; omega
        have hcw := fun W h => sc_write (w := W) (X := fun k => k < w.heap.size) (g := g) (cs := cs) (k := k) h hlt h60 A2 N c2 (by rw [HX.out]; exact HN.out) hPN
        have HCW := hide hcw
        clear hcw
        cases hbit : bitOf mask k
        · rw [hbit] at hbits
          simp only [Bool.false_eq_true, if_false] at hbits
          have HBIT := hide hbit
          clear hbit
          go_wp2_with (go_at_call 13; refine (HCW.out _ HM.out (by rw [HX.out]; exact HR.out)).mono ?_; rintro e w3 ⟨rfl, hm3, ho3⟩)
          go_roundw
          case rel =>
            have e := sleft_next HW.out hlt
            rw [HBIT.out] at e
            exact ⟨k + 1, W, by omega, by go_num, rfl, by simpa using e, hm3, HB.out.trans (ho3.below HB.out.size (fun _ h => h))⟩
          case measure => simp [intOf]; omega
        · rw [hbit] at hbits
          simp only [if_true] at hbits
          have HBIT := hide hbit
          clear hbit
          go_wp2_with (go_at_call 13; refine (HCW.out _ HM.out (by rw [HX.out]; exact HR.out)).mono ?_; rintro e w3 ⟨rfl, hm3, ho3⟩; have HM3 := hide hm3; have HO3 := hide ho3; have hpr := sc_row HV.out hlt HX.out (HB.out.trans (ho3.below HB.out.size (fun _ h => h))); rw [u8s_length, HN.out] at hpr; have HPR := hide hpr; clear hpr; have HPN := hide HN.out; clear hm3 ho3)
          refine region_phases (ops := _) (valV [some (.slice A2 N c2), some (.string ⟨xl.toArray⟩), some (.slice A2 N c2), some (.int .i64 (N : Int)), some (.int .i64 (((64 - N) : Nat) : Int)), none, some (.string ⟨(List.replicate (64 - N) (0 : UInt8)).toArray⟩), some (.string ⟨(pad xl).toArray⟩), some (.string ⟨(pad xl).toArray⟩)]) (phased [⟨5, 5, fun v w => (∃ g, v = .slice (some ⟨g, 0, none⟩) (64 - N) (64 - N) ∧ Blk w g 5 (blk8 (List.replicate (64 - N) 0))) ∧ Abv w3 w⟩] (fun w => Abv w3 w)) (by kernel_rfl) (by kernel_rfl) (by kernel_rfl) (by kernel_rfl) (phased_ext (by kernel_rfl)) ?_ ?_ ?_
          · exact (Abv.refl _).drew
          · intro i o ho L a w2 hph hsz hLi hnot hyes old dep
            match i, ho with
            | 0, ho =>
              obtain rfl := Option.some.inj ho
              rw [if_pos (wanted_none rfl)]
              have o8 := old 8 (by kernel_rfl)
              refine wp_yields (v := .slice A2 N c2) (w' := w2) ?_ (fun u hu => Option.some.inj (Option.some.inj hu)) (phased_quiet hLi (by rfl) hph)
              clear dep old ho hsz hph hnot hyes hLi
              go_simp
            | 1, ho =>
              obtain rfl := Option.some.inj ho
              rw [if_pos (wanted_none rfl)]
              have d0 : a.tmps.getD 38 undef = .slice A2 N c2 := dep 0 _ _ (by kernel_rfl) rfl rfl _ rfl
              have e0 : a.tmps[38]?.getD undef = .slice A2 N c2 := (Array.getD_eq_getD_getElem? ..).symm.trans d0
              have hA : Abv w3 w2 := phased_all (R := fun w => Abv w3 w) (fun q hq v w h => by simp only [List.mem_cons, List.not_mem_nil, or_false] at hq; rcases hq with rfl; exact h.2) (fun w h => h) hph
              have hcv := conv_rdn HPN.out (Rd.below HPR.out hA)
              refine wp_yields (v := .string ⟨xl.toArray⟩) (w' := w2) ?_ (fun u hu => Option.some.inj (Option.some.inj hu)) (phased_quiet hLi (by rfl) hph)
              clear dep old ho hsz hph hA hnot hyes hLi
              go_simp
            | 2, ho =>
              obtain rfl := Option.some.inj ho
              rw [if_pos (wanted_none rfl)]
              have o8 := old 8 (by kernel_rfl)
              refine wp_yields (v := .slice A2 N c2) (w' := w2) ?_ (fun u hu => Option.some.inj (Option.some.inj hu)) (phased_quiet hLi (by rfl) hph)
              clear dep old ho hsz hph hnot hyes hLi
              go_simp
            | 3, ho =>
              obtain rfl := Option.some.inj ho
              rw [if_pos (wanted_none rfl)]
              have d2 : a.tmps.getD 40 undef = .slice A2 N c2 := dep 2 _ _ (by kernel_rfl) rfl rfl _ rfl
              have e2 : a.tmps[40]?.getD undef = .slice A2 N c2 := (Array.getD_eq_getD_getElem? ..).symm.trans d2
              refine wp_yields (v := .int .i64 (N : Int)) (w' := w2) ?_ (fun u hu => Option.some.inj (Option.some.inj hu)) (phased_quiet hLi (by rfl) hph)
              clear dep old ho hsz hph hnot hyes hLi
              go_simp
            | 4, ho =>
              obtain rfl := Option.some.inj ho
              rw [if_pos (wanted_none rfl)]
              have d3 : a.tmps.getD 41 undef = .int .i64 (N : Int) := dep 3 _ _ (by kernel_rfl) rfl rfl _ rfl
              have e3 : a.tmps[41]?.getD undef = .int .i64 (N : Int) := (Array.getD_eq_getD_getElem? ..).symm.trans d3
              have hz : (64 : Int) - (N : Int) = (((64 - N) : Nat) : Int) := by omega
              refine wp_yields (v := .int .i64 (((64 - N) : Nat) : Int)) (w' := w2) ?_ (fun u hu => Option.some.inj (Option.some.inj hu)) (phased_quiet hLi (by rfl) hph)
              clear dep old ho hsz hph hnot hyes hLi
              have hb1 : (0 : Int) ≤ (N : Int) := by omega
              have hb2 : (N : Int) ≤ 64 := by omega
              rw [← hz]
              clear hz
              go_simp
              first | done | (rw [IntKind.wrap_i64]; omega) | rfl
            | 5, ho =>
              obtain rfl := Option.some.inj ho
              rw [if_pos (wanted_none rfl)]
              have d4 : a.tmps.getD 42 undef = .int .i64 (((64 - N) : Nat) : Int) := dep 4 _ _ (by kernel_rfl) rfl rfl _ rfl
              have e4 : a.tmps[42]?.getD undef = .int .i64 (((64 - N) : Nat) : Int) := (Array.getD_eq_getD_getElem? ..).symm.trans d4
              have hA : Abv w3 w2 := phased_first (fun p hp => by simp only [List.mem_cons, List.not_mem_nil, or_false] at hp; rcases hp with rfl; exact hLi) hph
              refine wp_yields (v := .slice (some ⟨w2.heap.size, 0, none⟩) (64 - N) (64 - N)) (w' := w2.alloc (.cells (blk8 (List.replicate (64 - N) 0)) 5)) (exec_make rfl d4 (by omega)) (fun u hu => by cases Option.some.inj hu) ?_
              unfold phased
              rw [if_pos (by simp [also])]
              exact ⟨by simp [also], ⟨w2.heap.size, by simp [yielding], Blk.new_ w2 _ _ rfl⟩, hA.alloc _⟩
            | 6, ho =>
              obtain rfl := Option.some.inj ho
              rw [if_pos (wanted_none rfl)]
              unfold phased at hph
              rw [if_pos (hyes 5 (by kernel_rfl))] at hph
              have hph3 := hph
              obtain ⟨_, ⟨gz, eg, hgz⟩, hA⟩ := hph3
              have eg2 : a.tmps.getD 43 undef = .slice (some ⟨gz, 0, none⟩) (64 - N) (64 - N) := eg
              have eg3 : a.tmps[43]?.getD undef = .slice (some ⟨gz, 0, none⟩) (64 - N) (64 - N) := (Array.getD_eq_getD_getElem? ..).symm.trans eg2
              have hcv := conv_blk (64 - N) (List.length_replicate ..) hgz
              refine wp_yields (v := .string ⟨(List.replicate (64 - N) (0 : UInt8)).toArray⟩) (w' := w2) ?_ (fun u hu => Option.some.inj (Option.some.inj hu)) (phased_quiet hLi (by rfl) (by unfold phased; rw [if_pos (hyes 5 (by kernel_rfl))]; exact hph))
              clear dep old ho hsz hph eg eg2 hgz hA hnot hyes hLi
              go_simp
            | 7, ho =>
              obtain rfl := Option.some.inj ho
              rw [if_pos (wanted_none rfl)]
              have d1 : a.tmps.getD 39 undef = .string ⟨xl.toArray⟩ := dep 1 _ _ (by kernel_rfl) rfl rfl _ rfl
              have e1 : a.tmps[39]?.getD undef = .string ⟨xl.toArray⟩ := (Array.getD_eq_getD_getElem? ..).symm.trans d1
              have d6 : a.tmps.getD 44 undef = .string ⟨(List.replicate (64 - N) (0 : UInt8)).toArray⟩ := dep 6 _ _ (by kernel_rfl) rfl rfl _ rfl
              have e6 : a.tmps[44]?.getD undef = .string ⟨(List.replicate (64 - N) (0 : UInt8)).toArray⟩ := (Array.getD_eq_getD_getElem? ..).symm.trans d6
              have hpd : xl ++ List.replicate (64 - N) (0 : UInt8) = pad xl := by unfold pad; rw [HPN.out]
              refine wp_yields (v := .string ⟨(xl ++ List.replicate (64 - N) (0 : UInt8)).toArray⟩) (w' := w2) (exec_add (x := .tmp 39) (y := .tmp 44) rfl d1 d6 (by rw [HPN.out, List.length_replicate]; omega)) (fun u hu => by rw [hpd]; exact Option.some.inj (Option.some.inj hu)) (phased_quiet hLi (by rfl) hph)
            | 8, ho =>
              obtain rfl := Option.some.inj ho
              rw [if_pos (wanted_none rfl)]
              have d7 : a.tmps.getD 45 undef = .string ⟨(pad xl).toArray⟩ := dep 7 _ _ (by kernel_rfl) rfl rfl _ rfl
              have e7 : a.tmps[45]?.getD undef = .string ⟨(pad xl).toArray⟩ := (Array.getD_eq_getD_getElem? ..).symm.trans d7
              refine wp_yields (v := .string ⟨(pad xl).toArray⟩) (w' := w2) ?_ (fun u hu => Option.some.inj (Option.some.inj hu)) (phased_quiet hLi (by rfl) hph)
              clear dep old ho hsz hph hnot hyes hLi
              go_simp
            | i + 9, ho => exact absurd ho (by simp)
          · intro a w6 hph hsz hdf fin keep
            unfold phased at hph
            rw [if_pos rfl] at hph
            obtain ⟨_, _, hA⟩ := hph
            obtain ⟨tm, df⟩ := a
            have hx : tm = #[tm.getD 0 undef, tm.getD 1 undef, tm.getD 2 undef, tm.getD 3 undef, tm.getD 4 undef, tm.getD 5 undef, tm.getD 6 undef, tm.getD 7 undef, tm.getD 8 undef, tm.getD 9 undef, tm.getD 10 undef, tm.getD 11 undef, tm.getD 12 undef, tm.getD 13 undef, tm.getD 14 undef, tm.getD 15 undef, tm.getD 16 undef, tm.getD 17 undef, tm.getD 18 undef, tm.getD 19 undef, tm.getD 20 undef, tm.getD 21 undef, tm.getD 22 undef, tm.getD 23 undef, tm.getD 24 undef, tm.getD 25 undef, tm.getD 26 undef, tm.getD 27 undef, tm.getD 28 undef, tm.getD 29 undef, tm.getD 30 undef, tm.getD 31 undef, tm.getD 32 undef, tm.getD 33 undef, tm.getD 34 undef, tm.getD 35 undef, tm.getD 36 undef, tm.getD 37 undef, tm.getD 38 undef, tm.getD 39 undef, tm.getD 40 undef, tm.getD 41 undef, tm.getD 42 undef, tm.getD 43 undef, tm.getD 44 undef, tm.getD 45 undef, tm.getD 46 undef, tm.getD 47 undef, tm.getD 48 undef, tm.getD 49 undef, tm.getD 50 undef, tm.getD 51 undef, tm.getD 52 undef, tm.getD 53 undef, tm.getD 54 undef, tm.getD 55 undef, tm.getD 56 undef, tm.getD 57 undef, tm.getD 58 undef, tm.getD 59 undef, tm.getD 60 undef, tm.getD 61 undef, tm.getD 62 undef] := slots_of tm 63 hsz
            have kn6 : tm.getD 6 undef = .string ⟨(pad xl).toArray⟩ := fin 8 _ _ rfl rfl _ rfl
            rw [kn6] at hx
            clear kn6
            generalize tm.getD 38 undef = y38 at hx
            generalize tm.getD 39 undef = y39 at hx
            generalize tm.getD 40 undef = y40 at hx
            generalize tm.getD 41 undef = y41 at hx
            generalize tm.getD 42 undef = y42 at hx
            generalize tm.getD 43 undef = y43 at hx
            generalize tm.getD 44 undef = y44 at hx
            generalize tm.getD 45 undef = y45 at hx
            rw [show tm.getD 0 undef = _ from keep 0 (by kernel_rfl)] at hx
            rw [show tm.getD 1 undef = _ from keep 1 (by kernel_rfl)] at hx
            rw [show tm.getD 2 undef = _ from keep 2 (by kernel_rfl)] at hx
            rw [show tm.getD 3 undef = _ from keep 3 (by kernel_rfl)] at hx
            rw [show tm.getD 4 undef = _ from keep 4 (by kernel_rfl)] at hx
            rw [show tm.getD 5 undef = _ from keep 5 (by kernel_rfl)] at hx
            rw [show tm.getD 7 undef = _ from keep 7 (by kernel_rfl)] at hx
            rw [show tm.getD 8 undef = _ from keep 8 (by kernel_rfl)] at hx
            rw [show tm.getD 9 undef = _ from keep 9 (by kernel_rfl)] at hx
            rw [show tm.getD 10 undef = _ from keep 10 (by kernel_rfl)] at hx
            rw [show tm.getD 11 undef = _ from keep 11 (by kernel_rfl)] at hx
            rw [show tm.getD 12 undef = _ from keep 12 (by kernel_rfl)] at hx
            rw [show tm.getD 13 undef = _ from keep 13 (by kernel_rfl)] at hx
            rw [show tm.getD 14 undef = _ from keep 14 (by kernel_rfl)] at hx
            rw [show tm.getD 15 undef = _ from keep 15 (by kernel_rfl)] at hx
            rw [show tm.getD 16 undef = _ from keep 16 (by kernel_rfl)] at hx
            rw [show tm.getD 17 undef = _ from keep 17 (by kernel_rfl)] at hx
            rw [show tm.getD 18 undef = _ from keep 18 (by kernel_rfl)] at hx
            rw [show tm.getD 19 undef = _ from keep 19 (by kernel_rfl)] at hx
            rw [show tm.getD 20 undef = _ from keep 20 (by kernel_rfl)] at hx
            rw [show tm.getD 21 undef = _ from keep 21 (by kernel_rfl)] at hx
            rw [show tm.getD 22 undef = _ from keep 22 (by kernel_rfl)] at hx
            rw [show tm.getD 23 undef = _ from keep 23 (by kernel_rfl)] at hx
            rw [show tm.getD 24 undef = _ from keep 24 (by kernel_rfl)] at hx
            rw [show tm.getD 25 undef = _ from keep 25 (by kernel_rfl)] at hx
            rw [show tm.getD 26 undef = _ from keep 26 (by kernel_rfl)] at hx
            rw [show tm.getD 27 undef = _ from keep 27 (by kernel_rfl)] at hx
            rw [show tm.getD 28 undef = _ from keep 28 (by kernel_rfl)] at hx
            rw [show tm.getD 29 undef = _ from keep 29 (by kernel_rfl)] at hx
            rw [show tm.getD 30 undef = _ from keep 30 (by kernel_rfl)] at hx
            rw [show tm.getD 31 undef = _ from keep 31 (by kernel_rfl)] at hx
            rw [show tm.getD 32 undef = _ from keep 32 (by kernel_rfl)] at hx
            rw [show tm.getD 33 undef = _ from keep 33 (by kernel_rfl)] at hx
            rw [show tm.getD 34 undef = _ from keep 34 (by kernel_rfl)] at hx
            rw [show tm.getD 35 undef = _ from keep 35 (by kernel_rfl)] at hx
            rw [show tm.getD 36 undef = _ from keep 36 (by kernel_rfl)] at hx
            rw [show tm.getD 37 undef = _ from keep 37 (by kernel_rfl)] at hx
            rw [show tm.getD 46 undef = _ from keep 46 (by kernel_rfl)] at hx
            rw [show tm.getD 47 undef = _ from keep 47 (by kernel_rfl)] at hx
            rw [show tm.getD 48 undef = _ from keep 48 (by kernel_rfl)] at hx
            rw [show tm.getD 49 undef = _ from keep 49 (by kernel_rfl)] at hx
            rw [show tm.getD 50 undef = _ from keep 50 (by kernel_rfl)] at hx
            rw [show tm.getD 51 undef = _ from keep 51 (by kernel_rfl)] at hx
            rw [show tm.getD 52 undef = _ from keep 52 (by kernel_rfl)] at hx
            rw [show tm.getD 53 undef = _ from keep 53 (by kernel_rfl)] at hx
            rw [show tm.getD 54 undef = _ from keep 54 (by kernel_rfl)] at hx
            rw [show tm.getD 55 undef = _ from keep 55 (by kernel_rfl)] at hx
            rw [show tm.getD 56 undef = _ from keep 56 (by kernel_rfl)] at hx
            rw [show tm.getD 57 undef = _ from keep 57 (by kernel_rfl)] at hx
            rw [show tm.getD 58 undef = _ from keep 58 (by kernel_rfl)] at hx
            rw [show tm.getD 59 undef = _ from keep 59 (by kernel_rfl)] at hx
            rw [show tm.getD 60 undef = _ from keep 60 (by kernel_rfl)] at hx
            rw [show tm.getD 61 undef = _ from keep 61 (by kernel_rfl)] at hx
            rw [show tm.getD 62 undef = _ from keep 62 (by kernel_rfl)] at hx
            simp only [Array.getD_eq_getD_getElem?, List.getElem?_toArray, List.getElem?_cons_succ, List.getElem?_cons_zero, Option.getD_some] at hx
            dsimp only at hdf
            clear fin keep hsz
            subst hx hdf
            have HA := hide hA
            clear hA
            go_wp2
            go_roundw
            case rel =>
              have e := sleft_next HW.out hlt
              rw [HBIT.out, HX.out] at e
              exact ⟨k + 1, pad xl, by omega, by go_num, rfl, by simpa using e, HM3.out.below HA.out, (HB.out.trans (HO3.out.below HB.out.size (fun _ h => h))).trans (Below.mono HA.out (Nat.le_trans HB.out.size HO3.out.size))⟩
            case measure => simp [intOf]; omega
    · have hkN : cs.length = k := by omega
      subst hkN
      have HM := hide hm
      have HB := hide hb
      have HW := hide hW
      clear hm hb hW
      go_wp2_with (first
        | (go_at_call 16; refine (sc_crash mask HM.out h60).mono ?_; rintro e w3 ⟨rfl, hm3, ho3⟩; have HM3 := hide hm3; have HO3 := hide ho3; clear hm3 ho3)
        | (go_at_call 18; refine (sc_read HM3.out HW.out).mono ?_; rintro e w4 ⟨rfl, hp4, hx4, hm4, hb4⟩; have hcv4 := conv_blk 64 hp4 hx4; have HB4 := hide hb4; clear hx4 hm4 hb4 hp4))
      go_ret
      have b3 := HB.out.trans (HO3.out.below HB.out.size (fun _ h => h))
      exact ⟨rfl, b3.trans (HB4.out.mono b3.size)⟩
end Go.Proofs.Ytjlfepmdnphenaa
