/-
  Contract of what the statements of stage 6 lay by hand: frame.
-/
import Derived.Test.YtofnldmbokdkbaaCSaid
import Derived.Test.YtofnldmbokdkbaaChain
namespace Go.Proofs.Ytofnldmbokdkbaa
open Go.RowKit

set_option linter.unusedSimpArgs false
set_option linter.unusedVariables false

theorem u8_wrap (n : Nat) : IntKind.u8.wrap (n : Int) = ((UInt8.ofNat n).toNat : Int) := by
  rw [UInt8.toNat_ofNat']
  simp [IntKind.wrap, IntKind.bits, IntKind.signed]
theorem u8_small (n : Nat) (h : n ≤ 255) : ((UInt8.ofNat n).toNat : Int) = (n : Int) := by
  rw [UInt8.toNat_ofNat']
  omega
set_option maxHeartbeats 4000000 in
theorem frame_any (r : Rc) (A : Option Addr) (c : Nat) (w : World) (h : r.Ok) (hv : Rd w (.slice A r.ds.length c) (u64s r.ds)) :
    Calls Try.prog 15 #[.agg #[.int .i64 (r.k : Int), .int .i64 (r.t : Int), .int .i64 (r.p : Int), .int .i64 (r.s : Int), .string r.b, .string r.a, .string r.i, .slice A r.ds.length c]] w fun e w' => ∃ v', e = .returned v' ∧ Mine w' w.heap.size v' r.frame ∧ Below w.heap.size w w' := by
  have B0 := Bx.new_ hv
  obtain ⟨i0, hi, hz0, hz1, hz2⟩ := info_parts info8
  obtain ⟨k1, k2⟩ := h.k
  have ht := h.t
  have hp := h.p
  have hs := h.s
  have hsb := h.b
  have hsa := h.a
  have hsi := h.i
  have hsd : r.ds.length ≤ 6 := by have := h.d; omega
  have HOK := hide h
  have HWA := hide (u8_wrap r.a.size)
  obtain ⟨q, hq⟩ : ∃ q, q = r.i.size / 256 := ⟨_, rfl⟩
  have HSH := hide (show (r.i.size : Int) / 256 = (q : Int) by omega)
  have HWH := hide (u8_wrap q)
  have H8 := hide (show (r.hd6 ++ [UInt8.ofNat q, UInt8.ofNat r.i.size]) ++ r.i.data.toList = r.hd8 by rw [hq, Rc.hd8]; simp [be])
  have H6 := hide (show ((r.hd4 ++ txt r.b) ++ [UInt8.ofNat r.a.size]) ++ r.a.data.toList = r.hd6 by rw [Rc.hd6]; simp [txt])
  have hq2 : q ≤ 1 := by omega
  have HWL := hide (u8_wrap r.i.size)
  clear h hv hq
  go_enter Try.func15, Try.ntmps15
  go_wp2
  have B1 := B0.alloc (.cells #[.int .u8 (r.k : Int), .int .u8 (r.t : Int), .int .u8 (r.p : Int), .int .u8 (r.s : Int), .int .u8 (r.b.size : Int)] 5)
  have M1 : Mine ((w.alloc (.cells #[.int .i64 (r.k : Int), .int .i64 (r.t : Int), .int .i64 (r.p : Int), .int .i64 (r.s : Int), .string r.b, .string r.a, .string r.i, .slice A r.ds.length c] 28)).alloc (.cells #[.int .u8 (r.k : Int), .int .u8 (r.t : Int), .int .u8 (r.p : Int), .int .u8 (r.s : Int), .int .u8 (r.b.size : Int)] 5)) (w.heap.size + 1) (.slice (some ⟨w.heap.size + 1, 0, none⟩) 5 5) (r.hd4 ++ [UInt8.ofNat r.b.size]) := by
    refine mine_new _ (r.hd4 ++ [UInt8.ofNat r.b.size]) 5 ?_ rfl (by omega) (by simp) (Nat.le_refl _)
    simp only [blk8, u8s, Rc.hd4, List.cons_append, List.nil_append, List.map_cons, List.map_nil]
    rw [u8_small r.k (by omega), u8_small r.t (by omega), u8_small r.p (by omega), u8_small r.s (by omega), u8_small r.b.size (by omega)]
  clear B0
  refine region_phases (ops := _) (valV [some (.slice (some ⟨w.heap.size + 1, 0, none⟩) 5 5), some (.pointer (some ⟨w.heap.size, 4, none⟩)), some (.string r.b), none, some (.pointer (some ⟨w.heap.size, 5, none⟩)), some (.string r.a), some (.int .i64 (r.a.size : Int)), some (.int .u8 ((UInt8.ofNat r.a.size).toNat : Int)), none, none, some (.pointer (some ⟨w.heap.size, 5, none⟩)), some (.string r.a), none, none]) (Chain (fun w2 => Bx w w2 r A c) (w.heap.size + 1) (.slice (some ⟨w.heap.size + 1, 0, none⟩) 5 5) (r.hd4 ++ [UInt8.ofNat r.b.size]) [(13, ((r.hd4 ++ txt r.b) ++ [UInt8.ofNat r.a.size]) ++ r.a.data.toList), (12, ((r.hd4 ++ txt r.b) ++ [UInt8.ofNat r.a.size]) ++ r.a.data.toList), (9, (r.hd4 ++ txt r.b) ++ [UInt8.ofNat r.a.size]), (3, r.hd4 ++ txt r.b)] 8 ([UInt8.ofNat r.a.size])) (by kernel_rfl) (by kernel_rfl) (by kernel_rfl) (by kernel_rfl) (Chain.ext (by rfl)) ?_ ?_ ?_
  · exact ⟨B1.drew, M1, fun h => by cases h⟩
  · intro i o ho L a w2 hph hsz hLi hnot hyes old dep
    match i, ho with
    | 0, ho =>
      obtain rfl := Option.some.inj ho
      rw [if_pos (wanted_none rfl)]
      have o3 := old 3 (by kernel_rfl)
      refine wp_yields (v := .slice (some ⟨w.heap.size + 1, 0, none⟩) 5 5) (w' := w2) ?_ (fun u hu => Option.some.inj (Option.some.inj hu)) (Chain.quiet (by rfl) (by rfl) hph)
      clear old dep ho hsz hph hnot hyes hLi
      go_simp
    | 1, ho =>
      obtain rfl := Option.some.inj ho
      rw [if_pos (wanted_none rfl)]
      have o1 := old 1 (by kernel_rfl)
      refine wp_yields (v := .pointer (some ⟨w.heap.size, 4, none⟩)) (w' := w2) ?_ (fun u hu => Option.some.inj (Option.some.inj hu)) (Chain.quiet (by rfl) (by rfl) hph)
      clear old dep ho hsz hph hnot hyes hLi
      go_simp
    | 2, ho =>
      obtain rfl := Option.some.inj ho
      rw [if_pos (wanted_none rfl)]
      have d1 : a.tmps.getD 24 undef = .pointer (some ⟨w.heap.size, 4, none⟩) := dep 1 _ _ (by kernel_rfl) rfl rfl _ rfl
      have e1 : a.tmps[24]?.getD undef = .pointer (some ⟨w.heap.size, 4, none⟩) := (Array.getD_eq_getD_getElem? ..).symm.trans d1
      obtain ⟨g0, g1, g2, g3, g4, g5, g6, g7⟩ := hph.1.all
      refine wp_yields (v := .string r.b) (w' := w2) ?_ (fun u hu => Option.some.inj (Option.some.inj hu)) (Chain.quiet (by rfl) (by rfl) hph)
      clear old dep ho hsz hph hnot hyes hLi
      go_simp
    | 3, ho =>
      obtain rfl := Option.some.inj ho
      rw [if_pos (wanted_none rfl)]
      have d0 : a.tmps.getD 23 undef = .slice (some ⟨w.heap.size + 1, 0, none⟩) 5 5 := dep 0 _ _ (by kernel_rfl) rfl rfl _ rfl
      have e0 : a.tmps[23]?.getD undef = .slice (some ⟨w.heap.size + 1, 0, none⟩) 5 5 := (Array.getD_eq_getD_getElem? ..).symm.trans d0
      have d2 : a.tmps.getD 25 undef = .string r.b := dep 2 _ _ (by kernel_rfl) rfl rfl _ rfl
      have e2 : a.tmps[25]?.getD undef = .string r.b := (Array.getD_eq_getD_getElem? ..).symm.trans d2
      have hcur : ∀ f, curC [(13, ((r.hd4 ++ txt r.b) ++ [UInt8.ofNat r.a.size]) ++ r.a.data.toList), (12, ((r.hd4 ++ txt r.b) ++ [UInt8.ofNat r.a.size]) ++ r.a.data.toList), (9, (r.hd4 ++ txt r.b) ++ [UInt8.ofNat r.a.size]), (3, r.hd4 ++ txt r.b)] (.slice (some ⟨w.heap.size + 1, 0, none⟩) 5 5) (r.hd4 ++ [UInt8.ofNat r.b.size]) L f = (.slice (some ⟨w.heap.size + 1, 0, none⟩) 5 5, r.hd4 ++ [UInt8.ofNat r.b.size]) := by
        intro f
        simp only [curC]
        rw [if_neg (by rw [hnot 13 (by kernel_rfl)]; decide), if_neg (by rw [hnot 12 (by kernel_rfl)]; decide), if_neg (by rw [hnot 9 (by kernel_rfl)]; decide), if_neg (by rw [hLi]; decide)]
      have hnow : ∀ f v', curC [(13, ((r.hd4 ++ txt r.b) ++ [UInt8.ofNat r.a.size]) ++ r.a.data.toList), (12, ((r.hd4 ++ txt r.b) ++ [UInt8.ofNat r.a.size]) ++ r.a.data.toList), (9, (r.hd4 ++ txt r.b) ++ [UInt8.ofNat r.a.size]), (3, r.hd4 ++ txt r.b)] (.slice (some ⟨w.heap.size + 1, 0, none⟩) 5 5) (r.hd4 ++ [UInt8.ofNat r.b.size]) (also L 3) (yielding f 3 v') = (v', r.hd4 ++ txt r.b) := by
        intro f v'
        simp only [curC]
        rw [if_neg (by simp [also, hnot 13 (by kernel_rfl)]), if_neg (by simp [also, hnot 12 (by kernel_rfl)]), if_neg (by simp [also, hnot 9 (by kernel_rfl)]), if_pos (by simp [also])]
        simp [yielding]
      have hph2 := hph
      obtain ⟨hB, hm0, hs⟩ := hph2
      rw [hcur _] at hm0
      have hm : Mine w2 (w.heap.size + 1) (.slice (some ⟨w.heap.size + 1, 0, none⟩) 5 5) (r.hd4 ++ [UInt8.ofNat r.b.size]) := hm0
      have es : a.eval (.tmp 23) = .slice (some ⟨w.heap.size + 1, 0, none⟩) 5 5 := d0
      have ex : a.eval (.tmp 25) = .string r.b := d2
      refine wp_append_str (.tmp 23) (.tmp 25) 25 9 rfl i0 Try.underlying25 Try.underlying9 hi hz0 hz1 hz2 es hm ex (by have := HOK.out.b; have := HOK.out.a; have := HOK.out.i; simp [Rc.hd4_length, txt_length, be_length, Rc.hd6_length, Rc.hd8_length] <;> omega) hB.lt ?_
      intro v' w' hm' hg
      exact ⟨v', rfl, (fun u hu => by cases Option.some.inj hu), Chain.step hph (by rfl) (hcur _) (hnow _ v') (by have := r.hd6_length; simp [Rc.hd4_length, txt_length, be_length, Rc.hd6_length, Rc.hd8_length] <;> omega) (hB.grown hg (fun k hk => by have := hm.low k hk; omega)) hm' hg⟩
    | 4, ho =>
      obtain rfl := Option.some.inj ho
      rw [if_pos (wanted_none rfl)]
      have o1 := old 1 (by kernel_rfl)
      refine wp_yields (v := .pointer (some ⟨w.heap.size, 5, none⟩)) (w' := w2) ?_ (fun u hu => Option.some.inj (Option.some.inj hu)) (Chain.quiet (by rfl) (by rfl) hph)
      clear old dep ho hsz hph hnot hyes hLi
      go_simp
    | 5, ho =>
      obtain rfl := Option.some.inj ho
      rw [if_pos (wanted_none rfl)]
      have d4 : a.tmps.getD 27 undef = .pointer (some ⟨w.heap.size, 5, none⟩) := dep 4 _ _ (by kernel_rfl) rfl rfl _ rfl
      have e4 : a.tmps[27]?.getD undef = .pointer (some ⟨w.heap.size, 5, none⟩) := (Array.getD_eq_getD_getElem? ..).symm.trans d4
      obtain ⟨g0, g1, g2, g3, g4, g5, g6, g7⟩ := hph.1.all
      refine wp_yields (v := .string r.a) (w' := w2) ?_ (fun u hu => Option.some.inj (Option.some.inj hu)) (Chain.quiet (by rfl) (by rfl) hph)
      clear old dep ho hsz hph hnot hyes hLi
      go_simp
    | 6, ho =>
      obtain rfl := Option.some.inj ho
      rw [if_pos (wanted_none rfl)]
      have d5 : a.tmps.getD 28 undef = .string r.a := dep 5 _ _ (by kernel_rfl) rfl rfl _ rfl
      have e5 : a.tmps[28]?.getD undef = .string r.a := (Array.getD_eq_getD_getElem? ..).symm.trans d5
      refine wp_yields (v := .int .i64 (r.a.size : Int)) (w' := w2) ?_ (fun u hu => Option.some.inj (Option.some.inj hu)) (Chain.quiet (by rfl) (by rfl) hph)
      clear old dep ho hsz hph hnot hyes hLi
      go_simp
    | 7, ho =>
      obtain rfl := Option.some.inj ho
      rw [if_pos (wanted_none rfl)]
      have d6 : a.tmps.getD 29 undef = .int .i64 (r.a.size : Int) := dep 6 _ _ (by kernel_rfl) rfl rfl _ rfl
      have e6 : a.tmps[29]?.getD undef = .int .i64 (r.a.size : Int) := (Array.getD_eq_getD_getElem? ..).symm.trans d6
      have hw := HWA.out
      refine wp_yields (v := .int .u8 ((UInt8.ofNat r.a.size).toNat : Int)) (w' := w2) ?_ (fun u hu => Option.some.inj (Option.some.inj hu)) (Chain.quiet (by rfl) (by rfl) hph)
      clear old dep ho hsz hph hnot hyes hLi
      go_simp
    | 8, ho =>
      obtain rfl := Option.some.inj ho
      rw [if_pos (wanted_none rfl)]
      have d7 : a.tmps.getD 30 undef = .int .u8 ((UInt8.ofNat r.a.size).toNat : Int) := dep 7 _ _ (by kernel_rfl) rfl rfl _ rfl
      have e7 : a.tmps[30]?.getD undef = .int .u8 ((UInt8.ofNat r.a.size).toNat : Int) := (Array.getD_eq_getD_getElem? ..).symm.trans d7
      refine wp_yields (v := .slice (some ⟨w2.heap.size, 0, none⟩) 1 1) (w' := w2.alloc (.cells #[.int .u8 ((UInt8.ofNat r.a.size).toNat : Int)] 5)) ?_ (fun u hu => by cases Option.some.inj hu) (Chain.slice (by rfl) (hph.1.alloc _) hph)
      clear old dep ho hsz hph hnot hyes hLi
      go_simp
    | 9, ho =>
      obtain rfl := Option.some.inj ho
      rw [if_pos (wanted_none rfl)]
      have hcur : ∀ f, curC [(13, ((r.hd4 ++ txt r.b) ++ [UInt8.ofNat r.a.size]) ++ r.a.data.toList), (12, ((r.hd4 ++ txt r.b) ++ [UInt8.ofNat r.a.size]) ++ r.a.data.toList), (9, (r.hd4 ++ txt r.b) ++ [UInt8.ofNat r.a.size]), (3, r.hd4 ++ txt r.b)] (.slice (some ⟨w.heap.size + 1, 0, none⟩) 5 5) (r.hd4 ++ [UInt8.ofNat r.b.size]) L f = (f 3, r.hd4 ++ txt r.b) := by
        intro f
        simp only [curC]
        rw [if_neg (by rw [hnot 13 (by kernel_rfl)]; decide), if_neg (by rw [hnot 12 (by kernel_rfl)]; decide), if_neg (by rw [hLi]; decide), if_pos (hyes 3 (by kernel_rfl))]
      have hnow : ∀ f v', curC [(13, ((r.hd4 ++ txt r.b) ++ [UInt8.ofNat r.a.size]) ++ r.a.data.toList), (12, ((r.hd4 ++ txt r.b) ++ [UInt8.ofNat r.a.size]) ++ r.a.data.toList), (9, (r.hd4 ++ txt r.b) ++ [UInt8.ofNat r.a.size]), (3, r.hd4 ++ txt r.b)] (.slice (some ⟨w.heap.size + 1, 0, none⟩) 5 5) (r.hd4 ++ [UInt8.ofNat r.b.size]) (also L 9) (yielding f 9 v') = (v', (r.hd4 ++ txt r.b) ++ [UInt8.ofNat r.a.size]) := by
        intro f v'
        simp only [curC]
        rw [if_neg (by simp [also, hnot 13 (by kernel_rfl)]), if_neg (by simp [also, hnot 12 (by kernel_rfl)]), if_pos (by simp [also])]
        simp [yielding]
      have hph2 := hph
      obtain ⟨hB, hm0, hs⟩ := hph2
      rw [hcur _] at hm0
      have hm : Mine w2 (w.heap.size + 1) (a.tmps.getD 26 undef) (r.hd4 ++ txt r.b) := hm0
      have es : a.eval (.tmp 26) = a.tmps.getD 26 undef := rfl
      obtain ⟨b, eb, hbb⟩ := hs (hyes 8 (by kernel_rfl))
      have ex : a.eval (.tmp 31) = .slice (some ⟨b, 0, none⟩) 1 1 := eb
      refine wp_append_bytes (.tmp 26) (.tmp 31) 25 rfl i0 Try.underlying25 hi hz0 hz1 hz2 es hm ex (hbb.rd8 rfl (Nat.le_refl _)) (by have := HOK.out.b; have := HOK.out.a; have := HOK.out.i; simp [Rc.hd4_length, txt_length, be_length, Rc.hd6_length, Rc.hd8_length] <;> omega) hB.lt ?_
      intro v' w' hm' hg
      exact ⟨v', rfl, (fun u hu => by cases Option.some.inj hu), Chain.step hph (by rfl) (hcur _) (hnow _ v') (by have := r.hd6_length; simp [Rc.hd4_length, txt_length, be_length, Rc.hd6_length, Rc.hd8_length] <;> omega) (hB.grown hg (fun k hk => by have := hm.low k hk; omega)) hm' hg⟩
    | 10, ho =>
      obtain rfl := Option.some.inj ho
      rw [if_pos (wanted_none rfl)]
      have o1 := old 1 (by kernel_rfl)
      refine wp_yields (v := .pointer (some ⟨w.heap.size, 5, none⟩)) (w' := w2) ?_ (fun u hu => Option.some.inj (Option.some.inj hu)) (Chain.quiet (by rfl) (by rfl) hph)
      clear old dep ho hsz hph hnot hyes hLi
      go_simp
    | 11, ho =>
      obtain rfl := Option.some.inj ho
      rw [if_pos (wanted_none rfl)]
      have d10 : a.tmps.getD 33 undef = .pointer (some ⟨w.heap.size, 5, none⟩) := dep 10 _ _ (by kernel_rfl) rfl rfl _ rfl
      have e10 : a.tmps[33]?.getD undef = .pointer (some ⟨w.heap.size, 5, none⟩) := (Array.getD_eq_getD_getElem? ..).symm.trans d10
      obtain ⟨g0, g1, g2, g3, g4, g5, g6, g7⟩ := hph.1.all
      refine wp_yields (v := .string r.a) (w' := w2) ?_ (fun u hu => Option.some.inj (Option.some.inj hu)) (Chain.quiet (by rfl) (by rfl) hph)
      clear old dep ho hsz hph hnot hyes hLi
      go_simp
    | 12, ho =>
      obtain rfl := Option.some.inj ho
      rw [if_pos (wanted_none rfl)]
      have d11 : a.tmps.getD 34 undef = .string r.a := dep 11 _ _ (by kernel_rfl) rfl rfl _ rfl
      have e11 : a.tmps[34]?.getD undef = .string r.a := (Array.getD_eq_getD_getElem? ..).symm.trans d11
      have hcur : ∀ f, curC [(13, ((r.hd4 ++ txt r.b) ++ [UInt8.ofNat r.a.size]) ++ r.a.data.toList), (12, ((r.hd4 ++ txt r.b) ++ [UInt8.ofNat r.a.size]) ++ r.a.data.toList), (9, (r.hd4 ++ txt r.b) ++ [UInt8.ofNat r.a.size]), (3, r.hd4 ++ txt r.b)] (.slice (some ⟨w.heap.size + 1, 0, none⟩) 5 5) (r.hd4 ++ [UInt8.ofNat r.b.size]) L f = (f 9, (r.hd4 ++ txt r.b) ++ [UInt8.ofNat r.a.size]) := by
        intro f
        simp only [curC]
        rw [if_neg (by rw [hnot 13 (by kernel_rfl)]; decide), if_neg (by rw [hLi]; decide), if_pos (hyes 9 (by kernel_rfl))]
      have hnow : ∀ f v', curC [(13, ((r.hd4 ++ txt r.b) ++ [UInt8.ofNat r.a.size]) ++ r.a.data.toList), (12, ((r.hd4 ++ txt r.b) ++ [UInt8.ofNat r.a.size]) ++ r.a.data.toList), (9, (r.hd4 ++ txt r.b) ++ [UInt8.ofNat r.a.size]), (3, r.hd4 ++ txt r.b)] (.slice (some ⟨w.heap.size + 1, 0, none⟩) 5 5) (r.hd4 ++ [UInt8.ofNat r.b.size]) (also L 12) (yielding f 12 v') = (v', ((r.hd4 ++ txt r.b) ++ [UInt8.ofNat r.a.size]) ++ r.a.data.toList) := by
        intro f v'
        simp only [curC]
        rw [if_neg (by simp [also, hnot 13 (by kernel_rfl)]), if_pos (by simp [also])]
        simp [yielding]
      have hph2 := hph
      obtain ⟨hB, hm0, hs⟩ := hph2
      rw [hcur _] at hm0
      have hm : Mine w2 (w.heap.size + 1) (a.tmps.getD 32 undef) ((r.hd4 ++ txt r.b) ++ [UInt8.ofNat r.a.size]) := hm0
      have es : a.eval (.tmp 32) = a.tmps.getD 32 undef := rfl
      have ex : a.eval (.tmp 34) = .string r.a := d11
      refine wp_append_str (.tmp 32) (.tmp 34) 25 9 rfl i0 Try.underlying25 Try.underlying9 hi hz0 hz1 hz2 es hm ex (by have := HOK.out.b; have := HOK.out.a; have := HOK.out.i; simp [Rc.hd4_length, txt_length, be_length, Rc.hd6_length, Rc.hd8_length] <;> omega) hB.lt ?_
      intro v' w' hm' hg
      exact ⟨v', rfl, (fun u hu => by cases Option.some.inj hu), Chain.step hph (by rfl) (hcur _) (hnow _ v') (by have := r.hd6_length; simp [Rc.hd4_length, txt_length, be_length, Rc.hd6_length, Rc.hd8_length] <;> omega) (hB.grown hg (fun k hk => by have := hm.low k hk; omega)) hm' hg⟩
    | 13, ho =>
      obtain rfl := Option.some.inj ho
      rw [if_pos (wanted_none rfl)]
      have hcur : ∀ f, curC [(13, ((r.hd4 ++ txt r.b) ++ [UInt8.ofNat r.a.size]) ++ r.a.data.toList), (12, ((r.hd4 ++ txt r.b) ++ [UInt8.ofNat r.a.size]) ++ r.a.data.toList), (9, (r.hd4 ++ txt r.b) ++ [UInt8.ofNat r.a.size]), (3, r.hd4 ++ txt r.b)] (.slice (some ⟨w.heap.size + 1, 0, none⟩) 5 5) (r.hd4 ++ [UInt8.ofNat r.b.size]) L f = (f 12, ((r.hd4 ++ txt r.b) ++ [UInt8.ofNat r.a.size]) ++ r.a.data.toList) := by
        intro f
        simp only [curC]
        rw [if_neg (by rw [hLi]; decide), if_pos (hyes 12 (by kernel_rfl))]
      have hnow : ∀ f v', curC [(13, ((r.hd4 ++ txt r.b) ++ [UInt8.ofNat r.a.size]) ++ r.a.data.toList), (12, ((r.hd4 ++ txt r.b) ++ [UInt8.ofNat r.a.size]) ++ r.a.data.toList), (9, (r.hd4 ++ txt r.b) ++ [UInt8.ofNat r.a.size]), (3, r.hd4 ++ txt r.b)] (.slice (some ⟨w.heap.size + 1, 0, none⟩) 5 5) (r.hd4 ++ [UInt8.ofNat r.b.size]) (also L 13) (yielding f 13 v') = (v', ((r.hd4 ++ txt r.b) ++ [UInt8.ofNat r.a.size]) ++ r.a.data.toList) := by
        intro f v'
        simp only [curC]
        rw [if_pos (by simp [also])]
        simp [yielding]
      have hph2 := hph
      obtain ⟨hB, hm0, hs⟩ := hph2
      rw [hcur _] at hm0
      have hm : Mine w2 (w.heap.size + 1) (a.tmps.getD 35 undef) (((r.hd4 ++ txt r.b) ++ [UInt8.ofNat r.a.size]) ++ r.a.data.toList) := hm0
      obtain ⟨u, hu⟩ : ∃ u, a.tmps.getD 35 undef = u := ⟨_, rfl⟩
      have eu : a.tmps[35]?.getD undef = u := (Array.getD_eq_getD_getElem? ..).symm.trans hu
      refine wp_yields (v := u) (w' := w2) ?_ (fun u hu => by cases Option.some.inj hu) (Chain.step hph (by rfl) (hcur _) (hnow _ u) (by have := r.hd6_length; simp [Rc.hd4_length, txt_length, be_length, Rc.hd6_length, Rc.hd8_length] <;> omega) hB (by rw [← hu]; exact hm) (World.grownBy.refl w2 _))
      clear old dep ho hsz hph hnot hyes hLi hs hm hm0 hB hcur hnow hu
      go_simp
    | i + 14, ho => exact absurd ho (by simp)
  · intro a w2 hph hsz hdf fin keep
    have B2 := hph.1
    have M2 : Mine w2 (w.heap.size + 1) (a.tmps.getD 3 undef) (((r.hd4 ++ txt r.b) ++ [UInt8.ofNat r.a.size]) ++ r.a.data.toList) := hph.2.1
    clear hph
    obtain ⟨tm, df⟩ := a
    have hx := frame_of [23, 24, 25, 26, 27, 28, 29, 30, 31, 32, 33, 34, 35, 3] (by kernel_rfl) hsz keep
    dsimp only at hdf hx M2
    simp only [List.foldl_cons, List.foldl_nil] at hx
    subst hdf
    clear hsz keep fin
    generalize tm.getD 23 undef = y23 at hx
    generalize tm.getD 24 undef = y24 at hx
    generalize tm.getD 25 undef = y25 at hx
    generalize tm.getD 26 undef = y26 at hx
    generalize tm.getD 27 undef = y27 at hx
    generalize tm.getD 28 undef = y28 at hx
    generalize tm.getD 29 undef = y29 at hx
    generalize tm.getD 30 undef = y30 at hx
    generalize tm.getD 31 undef = y31 at hx
    generalize tm.getD 32 undef = y32 at hx
    generalize tm.getD 33 undef = y33 at hx
    generalize tm.getD 34 undef = y34 at hx
    generalize tm.getD 35 undef = y35 at hx
    generalize tm.getD 3 undef = y3 at hx M2
    simp only [List.setIfInBounds_toArray, List.set_cons_succ, List.set_cons_zero] at hx
    subst hx
    rw [H6.out] at M2
    clear M1 B1
    go_wp2
    refine region_phases (ops := _) (valV [some (y3), some (.pointer (some ⟨w.heap.size, 6, none⟩)), some (.string r.i), some (.int .i64 (r.i.size : Int)), some (.int .i64 (q : Int)), some (.int .u8 ((UInt8.ofNat q).toNat : Int)), some (.pointer (some ⟨w.heap.size, 6, none⟩)), some (.string r.i), some (.int .i64 (r.i.size : Int)), some (.int .u8 ((UInt8.ofNat r.i.size).toNat : Int)), none, none, some (.pointer (some ⟨w.heap.size, 6, none⟩)), some (.string r.i), none, none]) (Chain (fun w2 => Bx w w2 r A c) (w.heap.size + 1) (y3) (r.hd6) [(15, (r.hd6 ++ [UInt8.ofNat q, UInt8.ofNat r.i.size]) ++ r.i.data.toList), (14, (r.hd6 ++ [UInt8.ofNat q, UInt8.ofNat r.i.size]) ++ r.i.data.toList), (11, r.hd6 ++ [UInt8.ofNat q, UInt8.ofNat r.i.size])] 10 ([UInt8.ofNat q, UInt8.ofNat r.i.size])) (by kernel_rfl) (by kernel_rfl) (by kernel_rfl) (by kernel_rfl) (Chain.ext (by rfl)) ?_ ?_ ?_
    · exact ⟨B2.drew, M2, fun h => by cases h⟩
    · intro i o ho L a w2 hph hsz hLi hnot hyes old dep
      match i, ho with
      | 0, ho =>
        obtain rfl := Option.some.inj ho
        rw [if_pos (wanted_none rfl)]
        have o3 := old 3 (by kernel_rfl)
        refine wp_yields (v := y3) (w' := w2) ?_ (fun u hu => Option.some.inj (Option.some.inj hu)) (Chain.quiet (by rfl) (by rfl) hph)
        clear old dep ho hsz hph hnot hyes hLi
        go_simp
      | 1, ho =>
        obtain rfl := Option.some.inj ho
        rw [if_pos (wanted_none rfl)]
        have o1 := old 1 (by kernel_rfl)
        refine wp_yields (v := .pointer (some ⟨w.heap.size, 6, none⟩)) (w' := w2) ?_ (fun u hu => Option.some.inj (Option.some.inj hu)) (Chain.quiet (by rfl) (by rfl) hph)
        clear old dep ho hsz hph hnot hyes hLi
        go_simp
      | 2, ho =>
        obtain rfl := Option.some.inj ho
        rw [if_pos (wanted_none rfl)]
        have d1 : a.tmps.getD 37 undef = .pointer (some ⟨w.heap.size, 6, none⟩) := dep 1 _ _ (by kernel_rfl) rfl rfl _ rfl
        have e1 : a.tmps[37]?.getD undef = .pointer (some ⟨w.heap.size, 6, none⟩) := (Array.getD_eq_getD_getElem? ..).symm.trans d1
        obtain ⟨g0, g1, g2, g3, g4, g5, g6, g7⟩ := hph.1.all
        refine wp_yields (v := .string r.i) (w' := w2) ?_ (fun u hu => Option.some.inj (Option.some.inj hu)) (Chain.quiet (by rfl) (by rfl) hph)
        clear old dep ho hsz hph hnot hyes hLi
        go_simp
      | 3, ho =>
        obtain rfl := Option.some.inj ho
        rw [if_pos (wanted_none rfl)]
        have d2 : a.tmps.getD 38 undef = .string r.i := dep 2 _ _ (by kernel_rfl) rfl rfl _ rfl
        have e2 : a.tmps[38]?.getD undef = .string r.i := (Array.getD_eq_getD_getElem? ..).symm.trans d2
        refine wp_yields (v := .int .i64 (r.i.size : Int)) (w' := w2) ?_ (fun u hu => Option.some.inj (Option.some.inj hu)) (Chain.quiet (by rfl) (by rfl) hph)
        clear old dep ho hsz hph hnot hyes hLi
        go_simp
      | 4, ho =>
        obtain rfl := Option.some.inj ho
        rw [if_pos (wanted_none rfl)]
        have d3 : a.tmps.getD 39 undef = .int .i64 (r.i.size : Int) := dep 3 _ _ (by kernel_rfl) rfl rfl _ rfl
        have e3 : a.tmps[39]?.getD undef = .int .i64 (r.i.size : Int) := (Array.getD_eq_getD_getElem? ..).symm.trans d3
        have hw := HSH.out
        refine wp_yields (v := .int .i64 (q : Int)) (w' := w2) ?_ (fun u hu => Option.some.inj (Option.some.inj hu)) (Chain.quiet (by rfl) (by rfl) hph)
        clear old dep ho hsz hph hnot hyes hLi
        go_simp
      | 5, ho =>
        obtain rfl := Option.some.inj ho
        rw [if_pos (wanted_none rfl)]
        have d4 : a.tmps.getD 40 undef = .int .i64 (q : Int) := dep 4 _ _ (by kernel_rfl) rfl rfl _ rfl
        have e4 : a.tmps[40]?.getD undef = .int .i64 (q : Int) := (Array.getD_eq_getD_getElem? ..).symm.trans d4
        have hw := HWH.out
        refine wp_yields (v := .int .u8 ((UInt8.ofNat q).toNat : Int)) (w' := w2) ?_ (fun u hu => Option.some.inj (Option.some.inj hu)) (Chain.quiet (by rfl) (by rfl) hph)
        clear old dep ho hsz hph hnot hyes hLi
        go_simp
      | 6, ho =>
        obtain rfl := Option.some.inj ho
        rw [if_pos (wanted_none rfl)]
        have o1 := old 1 (by kernel_rfl)
        refine wp_yields (v := .pointer (some ⟨w.heap.size, 6, none⟩)) (w' := w2) ?_ (fun u hu => Option.some.inj (Option.some.inj hu)) (Chain.quiet (by rfl) (by rfl) hph)
        clear old dep ho hsz hph hnot hyes hLi
        go_simp
      | 7, ho =>
        obtain rfl := Option.some.inj ho
        rw [if_pos (wanted_none rfl)]
        have d6 : a.tmps.getD 42 undef = .pointer (some ⟨w.heap.size, 6, none⟩) := dep 6 _ _ (by kernel_rfl) rfl rfl _ rfl
        have e6 : a.tmps[42]?.getD undef = .pointer (some ⟨w.heap.size, 6, none⟩) := (Array.getD_eq_getD_getElem? ..).symm.trans d6
        obtain ⟨g0, g1, g2, g3, g4, g5, g6, g7⟩ := hph.1.all
        refine wp_yields (v := .string r.i) (w' := w2) ?_ (fun u hu => Option.some.inj (Option.some.inj hu)) (Chain.quiet (by rfl) (by rfl) hph)
        clear old dep ho hsz hph hnot hyes hLi
        go_simp
      | 8, ho =>
        obtain rfl := Option.some.inj ho
        rw [if_pos (wanted_none rfl)]
        have d7 : a.tmps.getD 43 undef = .string r.i := dep 7 _ _ (by kernel_rfl) rfl rfl _ rfl
        have e7 : a.tmps[43]?.getD undef = .string r.i := (Array.getD_eq_getD_getElem? ..).symm.trans d7
        refine wp_yields (v := .int .i64 (r.i.size : Int)) (w' := w2) ?_ (fun u hu => Option.some.inj (Option.some.inj hu)) (Chain.quiet (by rfl) (by rfl) hph)
        clear old dep ho hsz hph hnot hyes hLi
        go_simp
      | 9, ho =>
        obtain rfl := Option.some.inj ho
        rw [if_pos (wanted_none rfl)]
        have d8 : a.tmps.getD 44 undef = .int .i64 (r.i.size : Int) := dep 8 _ _ (by kernel_rfl) rfl rfl _ rfl
        have e8 : a.tmps[44]?.getD undef = .int .i64 (r.i.size : Int) := (Array.getD_eq_getD_getElem? ..).symm.trans d8
        have hw := HWL.out
        refine wp_yields (v := .int .u8 ((UInt8.ofNat r.i.size).toNat : Int)) (w' := w2) ?_ (fun u hu => Option.some.inj (Option.some.inj hu)) (Chain.quiet (by rfl) (by rfl) hph)
        clear old dep ho hsz hph hnot hyes hLi
        go_simp
      | 10, ho =>
        obtain rfl := Option.some.inj ho
        rw [if_pos (wanted_none rfl)]
        have d5 : a.tmps.getD 41 undef = .int .u8 ((UInt8.ofNat q).toNat : Int) := dep 5 _ _ (by kernel_rfl) rfl rfl _ rfl
        have e5 : a.tmps[41]?.getD undef = .int .u8 ((UInt8.ofNat q).toNat : Int) := (Array.getD_eq_getD_getElem? ..).symm.trans d5
        have d9 : a.tmps.getD 45 undef = .int .u8 ((UInt8.ofNat r.i.size).toNat : Int) := dep 9 _ _ (by kernel_rfl) rfl rfl _ rfl
        have e9 : a.tmps[45]?.getD undef = .int .u8 ((UInt8.ofNat r.i.size).toNat : Int) := (Array.getD_eq_getD_getElem? ..).symm.trans d9
        refine wp_yields (v := .slice (some ⟨w2.heap.size, 0, none⟩) 2 2) (w' := w2.alloc (.cells #[.int .u8 ((UInt8.ofNat q).toNat : Int), .int .u8 ((UInt8.ofNat r.i.size).toNat : Int)] 5)) ?_ (fun u hu => by cases Option.some.inj hu) (Chain.slice (by rfl) (hph.1.alloc _) hph)
        clear old dep ho hsz hph hnot hyes hLi
        go_simp
      | 11, ho =>
        obtain rfl := Option.some.inj ho
        rw [if_pos (wanted_none rfl)]
        have d0 : a.tmps.getD 36 undef = y3 := dep 0 _ _ (by kernel_rfl) rfl rfl _ rfl
        have e0 : a.tmps[36]?.getD undef = y3 := (Array.getD_eq_getD_getElem? ..).symm.trans d0
        have hcur : ∀ f, curC [(15, (r.hd6 ++ [UInt8.ofNat q, UInt8.ofNat r.i.size]) ++ r.i.data.toList), (14, (r.hd6 ++ [UInt8.ofNat q, UInt8.ofNat r.i.size]) ++ r.i.data.toList), (11, r.hd6 ++ [UInt8.ofNat q, UInt8.ofNat r.i.size])] (y3) (r.hd6) L f = (y3, r.hd6) := by
          intro f
          simp only [curC]
          rw [if_neg (by rw [hnot 15 (by kernel_rfl)]; decide), if_neg (by rw [hnot 14 (by kernel_rfl)]; decide), if_neg (by rw [hLi]; decide)]
        have hnow : ∀ f v', curC [(15, (r.hd6 ++ [UInt8.ofNat q, UInt8.ofNat r.i.size]) ++ r.i.data.toList), (14, (r.hd6 ++ [UInt8.ofNat q, UInt8.ofNat r.i.size]) ++ r.i.data.toList), (11, r.hd6 ++ [UInt8.ofNat q, UInt8.ofNat r.i.size])] (y3) (r.hd6) (also L 11) (yielding f 11 v') = (v', r.hd6 ++ [UInt8.ofNat q, UInt8.ofNat r.i.size]) := by
          intro f v'
          simp only [curC]
          rw [if_neg (by simp [also, hnot 15 (by kernel_rfl)]), if_neg (by simp [also, hnot 14 (by kernel_rfl)]), if_pos (by simp [also])]
          simp [yielding]
        have hph2 := hph
        obtain ⟨hB, hm0, hs⟩ := hph2
        rw [hcur _] at hm0
        have hm : Mine w2 (w.heap.size + 1) (y3) (r.hd6) := hm0
        have es : a.eval (.tmp 36) = y3 := d0
        obtain ⟨b, eb, hbb⟩ := hs (hyes 10 (by kernel_rfl))
        have ex : a.eval (.tmp 46) = .slice (some ⟨b, 0, none⟩) 2 2 := eb
        refine wp_append_bytes (.tmp 36) (.tmp 46) 25 rfl i0 Try.underlying25 hi hz0 hz1 hz2 es hm ex (hbb.rd8 rfl (Nat.le_refl _)) (by have := HOK.out.b; have := HOK.out.a; have := HOK.out.i; simp [Rc.hd4_length, txt_length, be_length, Rc.hd6_length, Rc.hd8_length] <;> omega) hB.lt ?_
        intro v' w' hm' hg
        exact ⟨v', rfl, (fun u hu => by cases Option.some.inj hu), Chain.step hph (by rfl) (hcur _) (hnow _ v') (by have := r.hd6_length; simp [Rc.hd4_length, txt_length, be_length, Rc.hd6_length, Rc.hd8_length] <;> omega) (hB.grown hg (fun k hk => by have := hm.low k hk; omega)) hm' hg⟩
      | 12, ho =>
        obtain rfl := Option.some.inj ho
        rw [if_pos (wanted_none rfl)]
        have o1 := old 1 (by kernel_rfl)
        refine wp_yields (v := .pointer (some ⟨w.heap.size, 6, none⟩)) (w' := w2) ?_ (fun u hu => Option.some.inj (Option.some.inj hu)) (Chain.quiet (by rfl) (by rfl) hph)
        clear old dep ho hsz hph hnot hyes hLi
        go_simp
      | 13, ho =>
        obtain rfl := Option.some.inj ho
        rw [if_pos (wanted_none rfl)]
        have d12 : a.tmps.getD 48 undef = .pointer (some ⟨w.heap.size, 6, none⟩) := dep 12 _ _ (by kernel_rfl) rfl rfl _ rfl
        have e12 : a.tmps[48]?.getD undef = .pointer (some ⟨w.heap.size, 6, none⟩) := (Array.getD_eq_getD_getElem? ..).symm.trans d12
        obtain ⟨g0, g1, g2, g3, g4, g5, g6, g7⟩ := hph.1.all
        refine wp_yields (v := .string r.i) (w' := w2) ?_ (fun u hu => Option.some.inj (Option.some.inj hu)) (Chain.quiet (by rfl) (by rfl) hph)
        clear old dep ho hsz hph hnot hyes hLi
        go_simp
      | 14, ho =>
        obtain rfl := Option.some.inj ho
        rw [if_pos (wanted_none rfl)]
        have d13 : a.tmps.getD 49 undef = .string r.i := dep 13 _ _ (by kernel_rfl) rfl rfl _ rfl
        have e13 : a.tmps[49]?.getD undef = .string r.i := (Array.getD_eq_getD_getElem? ..).symm.trans d13
        have hcur : ∀ f, curC [(15, (r.hd6 ++ [UInt8.ofNat q, UInt8.ofNat r.i.size]) ++ r.i.data.toList), (14, (r.hd6 ++ [UInt8.ofNat q, UInt8.ofNat r.i.size]) ++ r.i.data.toList), (11, r.hd6 ++ [UInt8.ofNat q, UInt8.ofNat r.i.size])] (y3) (r.hd6) L f = (f 11, r.hd6 ++ [UInt8.ofNat q, UInt8.ofNat r.i.size]) := by
          intro f
          simp only [curC]
          rw [if_neg (by rw [hnot 15 (by kernel_rfl)]; decide), if_neg (by rw [hLi]; decide), if_pos (hyes 11 (by kernel_rfl))]
        have hnow : ∀ f v', curC [(15, (r.hd6 ++ [UInt8.ofNat q, UInt8.ofNat r.i.size]) ++ r.i.data.toList), (14, (r.hd6 ++ [UInt8.ofNat q, UInt8.ofNat r.i.size]) ++ r.i.data.toList), (11, r.hd6 ++ [UInt8.ofNat q, UInt8.ofNat r.i.size])] (y3) (r.hd6) (also L 14) (yielding f 14 v') = (v', (r.hd6 ++ [UInt8.ofNat q, UInt8.ofNat r.i.size]) ++ r.i.data.toList) := by
          intro f v'
          simp only [curC]
          rw [if_neg (by simp [also, hnot 15 (by kernel_rfl)]), if_pos (by simp [also])]
          simp [yielding]
        have hph2 := hph
        obtain ⟨hB, hm0, hs⟩ := hph2
        rw [hcur _] at hm0
        have hm : Mine w2 (w.heap.size + 1) (a.tmps.getD 47 undef) (r.hd6 ++ [UInt8.ofNat q, UInt8.ofNat r.i.size]) := hm0
        have es : a.eval (.tmp 47) = a.tmps.getD 47 undef := rfl
        have ex : a.eval (.tmp 49) = .string r.i := d13
        refine wp_append_str (.tmp 47) (.tmp 49) 25 9 rfl i0 Try.underlying25 Try.underlying9 hi hz0 hz1 hz2 es hm ex (by have := HOK.out.b; have := HOK.out.a; have := HOK.out.i; simp [Rc.hd4_length, txt_length, be_length, Rc.hd6_length, Rc.hd8_length] <;> omega) hB.lt ?_
        intro v' w' hm' hg
        exact ⟨v', rfl, (fun u hu => by cases Option.some.inj hu), Chain.step hph (by rfl) (hcur _) (hnow _ v') (by have := r.hd6_length; simp [Rc.hd4_length, txt_length, be_length, Rc.hd6_length, Rc.hd8_length] <;> omega) (hB.grown hg (fun k hk => by have := hm.low k hk; omega)) hm' hg⟩
      | 15, ho =>
        obtain rfl := Option.some.inj ho
        rw [if_pos (wanted_none rfl)]
        have hcur : ∀ f, curC [(15, (r.hd6 ++ [UInt8.ofNat q, UInt8.ofNat r.i.size]) ++ r.i.data.toList), (14, (r.hd6 ++ [UInt8.ofNat q, UInt8.ofNat r.i.size]) ++ r.i.data.toList), (11, r.hd6 ++ [UInt8.ofNat q, UInt8.ofNat r.i.size])] (y3) (r.hd6) L f = (f 14, (r.hd6 ++ [UInt8.ofNat q, UInt8.ofNat r.i.size]) ++ r.i.data.toList) := by
          intro f
          simp only [curC]
          rw [if_neg (by rw [hLi]; decide), if_pos (hyes 14 (by kernel_rfl))]
        have hnow : ∀ f v', curC [(15, (r.hd6 ++ [UInt8.ofNat q, UInt8.ofNat r.i.size]) ++ r.i.data.toList), (14, (r.hd6 ++ [UInt8.ofNat q, UInt8.ofNat r.i.size]) ++ r.i.data.toList), (11, r.hd6 ++ [UInt8.ofNat q, UInt8.ofNat r.i.size])] (y3) (r.hd6) (also L 15) (yielding f 15 v') = (v', (r.hd6 ++ [UInt8.ofNat q, UInt8.ofNat r.i.size]) ++ r.i.data.toList) := by
          intro f v'
          simp only [curC]
          rw [if_pos (by simp [also])]
          simp [yielding]
        have hph2 := hph
        obtain ⟨hB, hm0, hs⟩ := hph2
        rw [hcur _] at hm0
        have hm : Mine w2 (w.heap.size + 1) (a.tmps.getD 50 undef) ((r.hd6 ++ [UInt8.ofNat q, UInt8.ofNat r.i.size]) ++ r.i.data.toList) := hm0
        obtain ⟨u, hu⟩ : ∃ u, a.tmps.getD 50 undef = u := ⟨_, rfl⟩
        have eu : a.tmps[50]?.getD undef = u := (Array.getD_eq_getD_getElem? ..).symm.trans hu
        refine wp_yields (v := u) (w' := w2) ?_ (fun u hu => by cases Option.some.inj hu) (Chain.step hph (by rfl) (hcur _) (hnow _ u) (by have := r.hd6_length; simp [Rc.hd4_length, txt_length, be_length, Rc.hd6_length, Rc.hd8_length] <;> omega) hB (by rw [← hu]; exact hm) (World.grownBy.refl w2 _))
        clear old dep ho hsz hph hnot hyes hLi hs hm hm0 hB hcur hnow hu
        go_simp
      | i + 16, ho => exact absurd ho (by simp)
    · intro a w3 hph hsz hdf fin keep
      have B3 := hph.1
      have M3 : Mine w3 (w.heap.size + 1) (a.tmps.getD 3 undef) ((r.hd6 ++ [UInt8.ofNat q, UInt8.ofNat r.i.size]) ++ r.i.data.toList) := hph.2.1
      clear hph
      obtain ⟨tm, df⟩ := a
      have hx := frame_of [36, 37, 38, 39, 40, 41, 42, 43, 44, 45, 46, 47, 48, 49, 50, 3] (by kernel_rfl) hsz keep
      dsimp only at hdf hx M3
      simp only [List.foldl_cons, List.foldl_nil] at hx
      subst hdf
      clear hsz keep fin
      generalize tm.getD 36 undef = y36 at hx
      generalize tm.getD 37 undef = y37 at hx
      generalize tm.getD 38 undef = y38 at hx
      generalize tm.getD 39 undef = y39 at hx
      generalize tm.getD 40 undef = y40 at hx
      generalize tm.getD 41 undef = y41 at hx
      generalize tm.getD 42 undef = y42 at hx
      generalize tm.getD 43 undef = y43 at hx
      generalize tm.getD 44 undef = y44 at hx
      generalize tm.getD 45 undef = y45 at hx
      generalize tm.getD 46 undef = y46 at hx
      generalize tm.getD 47 undef = y47 at hx
      generalize tm.getD 48 undef = y48 at hx
      generalize tm.getD 49 undef = y49 at hx
      generalize tm.getD 50 undef = y50 at hx
      generalize tm.getD 3 undef = y3 at hx M3
      simp only [List.setIfInBounds_toArray, List.set_cons_succ, List.set_cons_zero] at hx
      subst hx
      clear M2 B2
      rw [H8.out] at M3
      obtain ⟨b1, b2, b3, b4, b5, b6, b7, b8⟩ := B3.all
      have HWD := hide (u8_wrap r.ds.length)
      have hsd2 := hide (u8_small r.ds.length (by omega))
      have o4 := hide (M3.alloc (.cells #[.int .u8 (r.ds.length : Int)] 5))
      have r4 := hide (show Rd (w3.alloc (.cells #[.int .u8 (r.ds.length : Int)] 5)) (.slice (some ⟨w3.heap.size, 0, none⟩) 1 1) (u8s [UInt8.ofNat r.ds.length]) from Rd.new_ w3 _ _ _ rfl rfl (Nat.le_refl _) (by rw [← hsd2.out]; rfl))
      have l4 := hide (show r.hd8.length + (u8s [UInt8.ofNat r.ds.length]).length ≤ maxLen by rw [u8s_length, r.hd8_length]; unfold maxLen; simp; omega)
      have m4 := hide (show (r.hd8.length + (u8s [UInt8.ofNat r.ds.length]).length) * 1 ≤ 140737488355328 by rw [u8s_length, r.hd8_length]; simp; omega)
      have s4 := hide (show w.heap.size + 1 ≤ (w3.alloc (.cells #[.int .u8 (r.ds.length : Int)] 5)).heap.size by simp; have := B3.lt; omega)
      have B4 := B3.alloc (.cells #[.int .u8 (r.ds.length : Int)] 5)
      go_wp2_with (at_builtin; refine wpList_append_rd rfl (.tmp 51) (.tmp 56) 25 rfl (base := w.heap.size + 1) 5 i0 (.int .u8 0) 1 Try.underlying25 hi hz0 hz1 hz2 rfl y3 r.hd8.length (u8s r.hd8) rfl o4.out (.slice (some ⟨w3.heap.size, 0, none⟩) 1 1) (u8s [UInt8.ofNat r.ds.length]) rfl r4.out (oneCell_u8s _) l4.out m4.out s4.out ?_; intro v5 w5 own5 grow5 at5; have B5 := B4.grown grow5 (fun k hk => by have := o4.out.low k hk; omega); have M5 : Mine w5 (w.heap.size + 1) v5 r.hd9 := mine_rd own5; obtain ⟨q1, q2, q3, q4, q5, q6, q7, q8⟩ := B5.all)
      have LB := hide (show r.hd9.length + 8 * r.ds.length ≤ 400 by have := HOK.out.b; have := HOK.out.a; rw [r.hd9_length]; omega)
      have SQ := hide r.said_eq
      have SL := hide (Rc.said_lt HOK.out)
      clear o4 r4 l4 m4 s4 B4 B3 M3 own5 grow5 at5 H6 H8
      go_loopw [3, 5, 61] (fun u y i wr => ∃ j : Nat, j ≤ r.ds.length ∧ i = .int .i64 j ∧ Mine wr (w.heap.size + 1) u (r.hd9 ++ eights (r.ds.take j)) ∧ Bx w wr r A c) (fun _ _ i _ => r.ds.length - (intOf i).toNat)
      case atStart => exact ⟨0, by omega, rfl, by simpa [eights] using M5, B5⟩
      case round =>
        obtain ⟨j, hj, rfl, hm, hB⟩ := hrel
        by_cases hlt : j < r.ds.length
        · obtain ⟨b, o, rfl, hcell⟩ := hB.num j hlt
          have HE := hide (show (r.hd9 ++ eights (r.ds.take j)) ++ be 8 r.ds[j] = r.hd9 ++ eights (r.ds.take (j + 1)) by rw [eights_take _ _ hlt, List.append_assoc])
          have hll := hide (show (r.hd9 ++ eights (r.ds.take j)).length ≤ 1000 by have := LB.out; rw [List.length_append, eights_length, List.length_take]; omega)
          generalize r.hd9 ++ eights (r.ds.take j) = lj at *
          generalize r.ds[j] = x at *
          have hl1 := hide (show lj.length + (u8s (be 8 x)).length ≤ maxLen by rw [u8s_length, be_length]; have := hll.out; unfold maxLen; omega)
          have hl2 := hide (show (lj.length + (u8s (be 8 x)).length) * 1 ≤ 140737488355328 by rw [u8s_length, be_length]; have := hll.out; omega)
          clear B5 M5
          go_wp2_with (first
            | (go_at_call 21; ((with_reducible refine (put_n8 x _).mono ?_); rintro e wn ⟨vn, rfl, mn, hbn⟩; have Bn := hB.below hbn; have hmn := hm.below hbn))
            | (at_builtin; refine wpList_append_rd rfl (.tmp 65) (.tmp 67) 25 rfl (base := w.heap.size + 1) 5 i0 (.int .u8 0) 1 Try.underlying25 hi hz0 hz1 hz2 rfl _ lj.length (u8s lj) rfl hmn vn (u8s (be 8 x)) rfl mn.rd (oneCell_u8s _) hl1.out hl2.out Bn.lt ?_; intro v6 w6 own6 grow6 at6; have B6 := Bn.grown grow6 (fun k hk => by have := hmn.low k hk; omega); have M6 : Mine w6 (w.heap.size + 1) v6 (lj ++ be 8 x) := mine_rd own6))
          go_round
          case rel => exact ⟨j + 1, by omega, by go_num, by rw [← HE.out]; exact M6, B6⟩
          case measure => simp [intOf]; omega
        · obtain rfl : j = r.ds.length := by omega
          rw [List.take_length, ← SQ.out] at hm
          obtain ⟨n, hn⟩ : ∃ n, n = r.said.length := ⟨_, rfl⟩
          obtain ⟨A3, c3, rfl⟩ := hm.form
          obtain ⟨q2, hq⟩ : ∃ q, q = n / 256 := ⟨_, rfl⟩
          have hn4 : n ≤ 393 := by have := SL.out; omega
          have HS2 : (n : Int) / 256 = (q2 : Int) := by omega
          have hq4 : q2 ≤ 1 := by omega
          have HW2 := u8_wrap n
          have HF := hide (show [UInt8.ofNat q2, UInt8.ofNat n] ++ r.said = r.frame by rw [Rc.frame, ← hn, hq]; simp [be])
          have HQ := hide (u8_small q2 (by omega))
          have hR := hm.rd
          rw [← hn] at hR ⊢
          clear hq
          have o9 := hide (mine_new wr [UInt8.ofNat q2, UInt8.ofNat n] 2 (cells := #[.int .u8 (q2 : Int), .int .u8 ((UInt8.ofNat n).toNat : Int)]) (base := w.heap.size + 1) (by rw [← HQ.out]; rfl) rfl (by omega) rfl hB.lt)
          have r9 := hide (hR.alloc (.cells #[.int .u8 (q2 : Int), .int .u8 ((UInt8.ofNat n).toNat : Int)] 5))
          have B9 := hB.alloc (.cells #[.int .u8 (q2 : Int), .int .u8 ((UInt8.ofNat n).toNat : Int)] 5)
          have l9 := hide (show [UInt8.ofNat q2, UInt8.ofNat n].length + (u8s r.said).length ≤ maxLen by rw [u8s_length, ← hn]; unfold maxLen; simp; omega)
          have m9 := hide (show ([UInt8.ofNat q2, UInt8.ofNat n].length + (u8s r.said).length) * 1 ≤ 140737488355328 by rw [u8s_length, ← hn]; simp; omega)
          clear B5 M5 hm hR hn SQ SL
          go_wp2_with (at_builtin; refine wpList_append_rd rfl (.tmp 77) (.tmp 78) 25 rfl (base := w.heap.size + 1) 5 i0 (.int .u8 0) 1 Try.underlying25 hi hz0 hz1 hz2 rfl (.slice (some ⟨wr.heap.size, 0, none⟩) 2 2) 2 (u8s [UInt8.ofNat q2, UInt8.ofNat n]) rfl o9.out (.slice A3 n c3) (u8s r.said) rfl r9.out (oneCell_u8s _) l9.out m9.out B9.lt ?_; intro v6 w6 own6 grow6 at6; have B6 := B9.grown grow6 (fun k hk => by have := o9.out.low k hk; omega); have M6 : Mine w6 (w.heap.size + 1) v6 ([UInt8.ofNat q2, UInt8.ofNat n] ++ r.said) := mine_rd own6)
          go_ret
          exact ⟨_, rfl, by rw [← HF.out]; exact M6.more (by omega), B6.bel⟩
end Go.Proofs.Ytofnldmbokdkbaa
