/-
  The walk of SumJoins.
-/
import Derived.Test.YtmeibpmcpgognaaBits
import Derived.Test.YtmeibpmcpgognaaRegion
namespace Go.Proofs.Ytmeibpmcpgognaa
open Go.RowKit Crc

theorem info8 : (Try.prog.info? 5).map (fun i => (i.zero, i.size, i.bytes)) = some (some (.int .u8 0), 1, 1) := by kernel_rfl

theorem u8_xor8 (p q : UInt8) : bits .xor .u8 (p.toNat : Int) (q.toNat : Int) = ((p ^^^ q).toNat : Int) := by
  rw [u8_xor_nat _ _ p.toNat_lt q.toNat_lt, UInt8.toNat_xor]
/-- The loop's text behind k rounds. -/
def mixed (a b : List UInt8) (k : Nat) : List UInt8 := (List.zipWith (· ^^^ ·) a b).take k ++ List.replicate (a.length - k) 0
theorem mixed_zero (a b : List UInt8) : mixed a b 0 = List.replicate a.length 0 := by simp [mixed]
theorem mixed_all (a b : List UInt8) (h : a.length = b.length) : mixed a b a.length = List.zipWith (· ^^^ ·) a b := by
  unfold mixed
  rw [Nat.sub_self, List.take_of_length_le (by simp [h])]
  simp
theorem mixed_length (a b : List UInt8) (h : a.length = b.length) (k : Nat) (hk : k ≤ a.length) : (mixed a b k).length = a.length := by
  unfold mixed
  rw [List.length_append, List.length_take, List.length_zipWith, List.length_replicate]
  omega
theorem mixed_get (a b : List UInt8) (h : a.length = b.length) (k : Nat) (hk : k < a.length) : (mixed a b k)[k]? = some 0 := by
  unfold mixed
  rw [List.getElem?_append_right (by rw [List.length_take, List.length_zipWith]; omega), List.length_take, List.length_zipWith]
  rw [List.getElem?_replicate, if_pos (by omega)]
theorem mixed_set (a b : List UInt8) (h : a.length = b.length) (k : Nat) (hk : k < a.length) : (mixed a b k).set k (a[k] ^^^ b[k]) = mixed a b (k + 1) := by
  apply List.ext_getElem?
  intro i
  rw [List.getElem?_set]
  have hl := mixed_length a b h k (by omega)
  by_cases hik : k = i
  · subst hik
    rw [if_pos rfl, if_pos (by omega)]
    unfold mixed
    rw [List.getElem?_append_left (by rw [List.length_take, List.length_zipWith]; omega), List.getElem?_take, if_pos (by omega)]
    have hb : k < b.length := h ▸ hk
    simp [List.getElem?_zipWith, hk, hb]
  · rw [if_neg hik]
    unfold mixed
    by_cases hlt : i < k
    · rw [List.getElem?_append_left (by rw [List.length_take, List.length_zipWith]; omega), List.getElem?_append_left (by rw [List.length_take, List.length_zipWith]; omega), List.getElem?_take, List.getElem?_take, if_pos (by omega), if_pos (by omega)]
    · rw [List.getElem?_append_right (by rw [List.length_take, List.length_zipWith]; omega), List.getElem?_append_right (by rw [List.length_take, List.length_zipWith]; omega), List.length_take, List.length_zipWith, List.length_take, List.length_zipWith, List.getElem?_replicate, List.getElem?_replicate]
      by_cases h2 : i < a.length
      · rw [if_pos (by omega), if_pos (by omega)]
      · rw [if_neg (by omega), if_neg (by omega)]

/-- A slice of slices of bytes, as a fact. -/
def isRows (ls : List (List UInt8)) : Fact := ⟨fun v w => Rows8 w w.heap.size v ls, fun v w w' h hb => by
  obtain ⟨vs, hl, hr, hin⟩ := h
  exact ⟨vs, hl, Rd.below hr hb, fun i hi => let ⟨u, hu, hrow⟩ := hin i hi; ⟨u, hu, Rd.below hrow hb⟩⟩⟩

theorem rows1 (w : World) (v : Value) {l : List UInt8} (hr : Rd w v (u8s l)) : (isRows [l]).holds (.slice (some ⟨w.heap.size, 0, none⟩) 1 1) (w.alloc (.cells #[v] 22)) :=
  ⟨[v], rfl, Rd.new_ w #[v] _ _ rfl rfl (Nat.le_refl _) rfl, fun i hi => by
    obtain rfl : i = 0 := by simpa using hi
    exact ⟨v, rfl, hr.alloc _⟩⟩
theorem of_any1 (v : Value) (l : List UInt8) (w : World) (hm : l.length ≤ maxLen) (hv : Rows8 w w.heap.size v [l]) :
    Calls Try.prog 9 #[v] w fun e w' => e = .returned (.int .u32 (w32 (crc l))) ∧ w = w' := by
  have h := of_any v [l] w.heap.size w (by unfold maxLen; simp) (by simpa using hm) hv
  simpa using h

set_option maxHeartbeats 1000000 in
theorem joins_walk (v : Value) (la : List UInt8) (u : Value) (lb : List UInt8) (w : World) (hma : la.length ≤ maxLen) (hv : Rd w v (u8s la)) (hmb : lb.length ≤ maxLen) (hu : Rd w u (u8s lb)) :
    Calls Try.prog 6 #[v, u] w fun e w' => e = .returned (.bool true) ∧ Below w.heap.size w w' := by
  obtain ⟨A, c, rfl, hc, hA⟩ := id hv
  obtain ⟨D, d, rfl, hd, hD⟩ := id hu
  rw [u8s_length] at hA hc hv hD hd hu ⊢
  rw [u8s_length]
  obtain ⟨n, hn⟩ : ∃ n : Nat, n = min (min la.length lb.length) 200 := ⟨_, rfl⟩
  have h1 : n ≤ la.length := by omega
  have h2 : n ≤ lb.length := by omega
  have h3 : n ≤ 200 := by omega
  have h4 : n ≤ c := by omega
  have h5 : n ≤ d := by omega
  unfold maxLen at hma hmb
  have hmin : ∀ W, (Builtin.min_ #[3, 3, 3] 3 #[.int .i64 (la.length : Int), .int .i64 (lb.length : Int), .int .i64 (200 : Int)]).run Try.prog W = .ok (.int .i64 (n : Int)) W := by
    intro W
    rw [run_min_int3]
    congr 2
    subst hn; split <;> split <;> omega
  have hl1 := fun W => run_low slice8 size8 A la.length c n h4 W
  have hl2 := fun W => run_low slice8 size8 D lb.length d n h5 W
  clear hn
  go_enter Try.func6, Try.ntmps6
  go_wp2_with (go_at_call 8; refine (fit_any _).mono ?_; rintro e w1 ⟨rfl, hb1⟩)
  have hr1 := hide (Rd.low (hv.below hb1) h1)
  have hr2 := hide (Rd.low (hu.below hb1) h2)
  have ha1 := hide (show Abv w w1 from hb1)
  have hla : (la.take n).length = n := by rw [List.length_take]; omega
  have hlb : (lb.take n).length = n := by rw [List.length_take]; omega
  generalize la.take n = xa at *
  generalize lb.take n = xb at *
  have Hla := hide hla
  have Hlb := hide hlb
  have hmk := fun W => run_make8 (P := Try.prog) 22 5 Try.underlying22 info8 n (by omega) W
  clear hla hlb hmin hb1 hv hu hA hD
  go_region
  go_wp2
  have HW : Hid (∀ k, k ≤ n → (mixed xa xb k).length = n) := fun k hk => by rw [mixed_length xa xb (Hla.out.trans Hlb.out.symm) k (by rw [Hla.out]; exact hk), Hla.out]
  go_loopw [25] (fun i wr => ∃ k : Nat, k ≤ n ∧ i = .int .i64 k ∧ Blk wr w1.heap.size 5 (blk8 (mixed xa xb k)) ∧ Below w1.heap.size w1 wr) (fun i _ => n - (intOf i).toNat)
  case atStart => exact ⟨0, by omega, rfl, by rw [mixed_zero, Hla.out]; exact heap_at_drew _ _ rfl, ((Below.refl _ _).alloc (Nat.le_refl _) _).drew⟩
  case round =>
    obtain ⟨k, hk, rfl, hblk, hbel⟩ := hrel
    by_cases hlt : k < n
    · obtain ⟨A', c', he, _, hA⟩ := Rd.below hr1.out hbel
      obtain ⟨D', d', he2, _, hD⟩ := Rd.below hr2.out hbel
      injection he with e1 e2 e3
      injection he2 with e4 e5 e6
      subst e1 e3 e4 e6
      rw [← e2] at hA
      rw [← e5] at hD
      obtain ⟨b, o, rfl, hb, hcell⟩ := hA (by omega)
      obtain ⟨b2, o2, rfl, hb2, hcell2⟩ := hD (by omega)
      have hca := hcell k _ (u8s_get xa k (by rw [Hla.out]; exact hlt))
      have hcb := hcell2 k _ (u8s_get xb k (by rw [Hlb.out]; exact hlt))
      have hcx := hblk.cell k (.int .u8 0) (by
        have h := mixed_get xa xb (Hla.out.trans Hlb.out.symm) k (by rw [Hla.out]; exact hlt)
        obtain ⟨hlen, hget⟩ := List.getElem?_eq_some_iff.1 h
        rw [blk8_get _ k hlen, hget]; rfl)
      have hfr := hblk.frozen k
      have HM := hide (mixed_set xa xb (Hla.out.trans Hlb.out.symm) k (by rw [Hla.out]; exact hlt))
      have HB := hide hblk
      clear hblk hcell hcell2 hA hD e2 e5
      have hlx : k < xa.length := by rw [Hla.out]; exact hlt
      have hly : k < xb.length := by rw [Hlb.out]; exact hlt
      generalize xa[k] = p at *
      generalize xb[k] = q at *
      have hxor := u8_xor8 p q
      go_wp2
      go_region
      go_wp2
      go_roundw
      case rel => exact ⟨k + 1, by omega, by go_num, by rw [← HM.out, ← blk8_set]; exact (HB.out.drew).set_ k _, (hbel.drew).setCell (Nat.le_refl _) _⟩
      case measure => simp [intOf]; omega
    · obtain rfl : k = n := by omega
      have hxl : (List.zipWith (· ^^^ ·) xa xb : List UInt8).length = k := by rw [← mixed_all xa xb (Hla.out.trans Hlb.out.symm), Hla.out]; exact HW.out k (Nat.le_refl _)
      have hX : Rd wr (.slice (some ⟨w1.heap.size, 0, none⟩) k k) (u8s (List.zipWith (· ^^^ ·) xa xb)) := by
        have h := hblk
        rw [show mixed xa xb k = List.zipWith (· ^^^ ·) xa xb from by rw [← mixed_all xa xb (Hla.out.trans Hlb.out.symm), Hla.out]] at h
        exact h.rd8 hxl.symm (Nat.le_refl _)
      have hZ : (List.replicate k (0 : UInt8)).length = k := List.length_replicate ..
      have HCX := hide (crc_xor xa xb (Hla.out.trans Hlb.out.symm))
      rw [Hla.out] at HCX
      have hm1 : (List.zipWith (· ^^^ ·) xa xb : List UInt8).length ≤ maxLen := by rw [hxl]; unfold maxLen; omega
      have hm2 : xa.length ≤ maxLen := by rw [Hla.out]; unfold maxLen; omega
      have hm3 : xb.length ≤ maxLen := by rw [Hlb.out]; unfold maxLen; omega
      have hm4 : (List.replicate k (0 : UInt8)).length ≤ maxLen := by rw [hZ]; unfold maxLen; omega
      generalize List.zipWith (· ^^^ ·) xa xb = X at *
      have hx := hide hX
      have hy := hide (Rd.below hr1.out hbel)
      have hz := hide (Rd.below hr2.out hbel)
      have ha := hide (Below.trans ha1.out (hbel.mono (Below.size ha1.out)))
      have HZ := hide hZ
      clear hX hZ hxl hbel hblk hr1 hr2 ha1
      go_wp2
      refine region_facts (ops := _) [isV (.slice (some ⟨w1.heap.size, 0, none⟩) k k), isRows [X], isV (.int .u32 (w32 (crc X))), isV (.slice A k c), isRows [xa], isV (.int .u32 (w32 (crc xa))), isV (.slice D k d), isRows [xb], isV (.int .u32 (w32 (crc xb))), isV (.int .u32 (w32 (crc xa ^^^ crc xb))), isV (.int .i64 k), isRd (u8s (List.replicate k 0)), isRows [List.replicate k 0], isV (.int .u32 (w32 (crc (List.replicate k 0)))), isV (.int .u32 (w32 ((crc xa ^^^ crc xb) ^^^ crc (List.replicate k 0)))), isV (.bool true), isV (.bool true)] (by kernel_rfl) (by kernel_rfl) (by kernel_rfl) (hend_of (by kernel_rfl)) ?_ ?_
      · intro i o ho a w2 hup hsz old dep
        match i, ho with
        | 0, ho =>
          obtain rfl := Option.some.inj ho
          rw [if_pos (wanted_none rfl)]
          have o6 := old 6 (by kernel_rfl)
          refine wp_value (v := (.slice (some ⟨w1.heap.size, 0, none⟩) k k)) (w' := w2) ?_ rfl (Abv.refl _)
          clear dep old ho hsz
          go_simp
        | 1, ho =>
          obtain rfl := Option.some.inj ho
          rw [if_pos (wanted_none rfl)]
          have d0 : a.tmps.getD 41 undef = (.slice (some ⟨w1.heap.size, 0, none⟩) k k) := dep 0 _ _ (by kernel_rfl) rfl rfl
          have e0 : a.tmps[41]?.getD undef = (.slice (some ⟨w1.heap.size, 0, none⟩) k k) := (Array.getD_eq_getD_getElem? ..).symm.trans d0
          refine wp_value (v := .slice (some ⟨w2.heap.size, 0, none⟩) 1 1) (w' := w2.alloc (.cells #[.slice (some ⟨w1.heap.size, 0, none⟩) k k] 22)) ?_ (rows1 _ _ (Rd.below hx.out hup)) ((Abv.refl _).alloc _)
          clear dep old ho hsz
          go_simp
        | 2, ho =>
          obtain rfl := Option.some.inj ho
          rw [if_pos (wanted_none rfl)]
          have d1 := dep 1 _ _ (by kernel_rfl) rfl rfl
          obtain ⟨v, ev, hrows⟩ : ∃ v, a.tmps.getD 42 undef = v ∧ Rows8 w2 w2.heap.size v [X] := ⟨_, rfl, d1⟩
          refine wp_call (f := 9) (args := #[v]) ?_ ((of_any1 v X w2 hm1 hrows).mono ?_)
          · clear dep old ho hsz d1
            go_simp
          · rintro e w' ⟨rfl, rfl⟩
            exact ⟨_, rfl, rfl, Abv.refl _⟩
        | 3, ho =>
          obtain rfl := Option.some.inj ho
          rw [if_pos (wanted_none rfl)]
          have o0 := old 0 (by kernel_rfl)
          refine wp_value (v := (.slice A k c)) (w' := w2) ?_ rfl (Abv.refl _)
          clear dep old ho hsz
          go_simp
        | 4, ho =>
          obtain rfl := Option.some.inj ho
          rw [if_pos (wanted_none rfl)]
          have d3 : a.tmps.getD 44 undef = (.slice A k c) := dep 3 _ _ (by kernel_rfl) rfl rfl
          have e3 : a.tmps[44]?.getD undef = (.slice A k c) := (Array.getD_eq_getD_getElem? ..).symm.trans d3
          refine wp_value (v := .slice (some ⟨w2.heap.size, 0, none⟩) 1 1) (w' := w2.alloc (.cells #[.slice A k c] 22)) ?_ (rows1 _ _ (Rd.below hy.out hup)) ((Abv.refl _).alloc _)
          clear dep old ho hsz
          go_simp
        | 5, ho =>
          obtain rfl := Option.some.inj ho
          rw [if_pos (wanted_none rfl)]
          have d4 := dep 4 _ _ (by kernel_rfl) rfl rfl
          obtain ⟨v, ev, hrows⟩ : ∃ v, a.tmps.getD 45 undef = v ∧ Rows8 w2 w2.heap.size v [xa] := ⟨_, rfl, d4⟩
          refine wp_call (f := 9) (args := #[v]) ?_ ((of_any1 v xa w2 hm2 hrows).mono ?_)
          · clear dep old ho hsz d4
            go_simp
          · rintro e w' ⟨rfl, rfl⟩
            exact ⟨_, rfl, rfl, Abv.refl _⟩
        | 6, ho =>
          obtain rfl := Option.some.inj ho
          rw [if_pos (wanted_none rfl)]
          have o1 := old 1 (by kernel_rfl)
          refine wp_value (v := (.slice D k d)) (w' := w2) ?_ rfl (Abv.refl _)
          clear dep old ho hsz
          go_simp
        | 7, ho =>
          obtain rfl := Option.some.inj ho
          rw [if_pos (wanted_none rfl)]
          have d6 : a.tmps.getD 47 undef = (.slice D k d) := dep 6 _ _ (by kernel_rfl) rfl rfl
          have e6 : a.tmps[47]?.getD undef = (.slice D k d) := (Array.getD_eq_getD_getElem? ..).symm.trans d6
          refine wp_value (v := .slice (some ⟨w2.heap.size, 0, none⟩) 1 1) (w' := w2.alloc (.cells #[.slice D k d] 22)) ?_ (rows1 _ _ (Rd.below hz.out hup)) ((Abv.refl _).alloc _)
          clear dep old ho hsz
          go_simp
        | 8, ho =>
          obtain rfl := Option.some.inj ho
          rw [if_pos (wanted_none rfl)]
          have d7 := dep 7 _ _ (by kernel_rfl) rfl rfl
          obtain ⟨v, ev, hrows⟩ : ∃ v, a.tmps.getD 48 undef = v ∧ Rows8 w2 w2.heap.size v [xb] := ⟨_, rfl, d7⟩
          refine wp_call (f := 9) (args := #[v]) ?_ ((of_any1 v xb w2 hm3 hrows).mono ?_)
          · clear dep old ho hsz d7
            go_simp
          · rintro e w' ⟨rfl, rfl⟩
            exact ⟨_, rfl, rfl, Abv.refl _⟩
        | 9, ho =>
          obtain rfl := Option.some.inj ho
          rw [if_pos (wanted_none rfl)]
          have d5 : a.tmps.getD 46 undef = (.int .u32 (w32 (crc xa))) := dep 5 _ _ (by kernel_rfl) rfl rfl
          have e5 : a.tmps[46]?.getD undef = (.int .u32 (w32 (crc xa))) := (Array.getD_eq_getD_getElem? ..).symm.trans d5
          have d8 : a.tmps.getD 49 undef = (.int .u32 (w32 (crc xb))) := dep 8 _ _ (by kernel_rfl) rfl rfl
          have e8 : a.tmps[49]?.getD undef = (.int .u32 (w32 (crc xb))) := (Array.getD_eq_getD_getElem? ..).symm.trans d8
          refine wp_value (v := (.int .u32 (w32 (crc xa ^^^ crc xb)))) (w' := w2) ?_ rfl (Abv.refl _)
          clear dep old ho hsz
          go_simp
          exact w32_xor _ _
        | 10, ho =>
          obtain rfl := Option.some.inj ho
          rw [if_pos (wanted_none rfl)]
          have o5 := old 5 (by kernel_rfl)
          refine wp_value (v := (.int .i64 k)) (w' := w2) ?_ rfl (Abv.refl _)
          clear dep old ho hsz
          go_simp
        | 11, ho =>
          obtain rfl := Option.some.inj ho
          rw [if_pos (wanted_none rfl)]
          have d10 : a.tmps.getD 51 undef = (.int .i64 k) := dep 10 _ _ (by kernel_rfl) rfl rfl
          have e10 : a.tmps[51]?.getD undef = (.int .i64 k) := (Array.getD_eq_getD_getElem? ..).symm.trans d10
          refine wp_value (v := .slice (some ⟨w2.heap.size, 0, none⟩) k k) (w' := w2.alloc (.cells (blk8 (List.replicate k 0)) 5)) ?_ (Blk.rd8 (Blk.new_ _ _ _ rfl) HZ.out.symm (Nat.le_refl _)) ((Abv.refl _).alloc _)
          clear dep old ho hsz
          go_simp
        | 12, ho =>
          obtain rfl := Option.some.inj ho
          rw [if_pos (wanted_none rfl)]
          have d11 := dep 11 _ _ (by kernel_rfl) rfl rfl
          have d11' : Rd w2 (a.tmps.getD 52 undef) (u8s (List.replicate k 0)) := d11
          obtain ⟨E, m, ev, hcc, hE⟩ := id d11'
          rw [ev] at d11'
          have ev2 := (Array.getD_eq_getD_getElem? ..).symm.trans ev
          refine wp_value (v := .slice (some ⟨w2.heap.size, 0, none⟩) 1 1) (w' := w2.alloc (.cells #[.slice E (u8s (List.replicate k 0)).length m] 22)) ?_ (rows1 _ _ d11') ((Abv.refl _).alloc _)
          clear dep old ho hsz d11 d11' hE
          go_simp
        | 13, ho =>
          obtain rfl := Option.some.inj ho
          rw [if_pos (wanted_none rfl)]
          have d12 := dep 12 _ _ (by kernel_rfl) rfl rfl
          obtain ⟨v, ev, hrows⟩ : ∃ v, a.tmps.getD 53 undef = v ∧ Rows8 w2 w2.heap.size v [List.replicate k 0] := ⟨_, rfl, d12⟩
          refine wp_call (f := 9) (args := #[v]) ?_ ((of_any1 v (List.replicate k 0) w2 hm4 hrows).mono ?_)
          · clear dep old ho hsz d12
            go_simp
          · rintro e w' ⟨rfl, rfl⟩
            exact ⟨_, rfl, rfl, Abv.refl _⟩
        | 14, ho =>
          obtain rfl := Option.some.inj ho
          rw [if_pos (wanted_none rfl)]
          have d9 : a.tmps.getD 50 undef = (.int .u32 (w32 (crc xa ^^^ crc xb))) := dep 9 _ _ (by kernel_rfl) rfl rfl
          have e9 : a.tmps[50]?.getD undef = (.int .u32 (w32 (crc xa ^^^ crc xb))) := (Array.getD_eq_getD_getElem? ..).symm.trans d9
          have d13 : a.tmps.getD 54 undef = (.int .u32 (w32 (crc (List.replicate k 0)))) := dep 13 _ _ (by kernel_rfl) rfl rfl
          have e13 : a.tmps[54]?.getD undef = (.int .u32 (w32 (crc (List.replicate k 0)))) := (Array.getD_eq_getD_getElem? ..).symm.trans d13
          refine wp_value (v := (.int .u32 (w32 ((crc xa ^^^ crc xb) ^^^ crc (List.replicate k 0))))) (w' := w2) ?_ rfl (Abv.refl _)
          clear dep old ho hsz
          go_simp
          exact w32_xor _ _
        | 15, ho =>
          obtain rfl := Option.some.inj ho
          rw [if_pos (wanted_none rfl)]
          have d2 : a.tmps.getD 43 undef = (.int .u32 (w32 (crc X))) := dep 2 _ _ (by kernel_rfl) rfl rfl
          have e2 : a.tmps[43]?.getD undef = (.int .u32 (w32 (crc X))) := (Array.getD_eq_getD_getElem? ..).symm.trans d2
          have d14 : a.tmps.getD 55 undef = (.int .u32 (w32 ((crc xa ^^^ crc xb) ^^^ crc (List.replicate k 0)))) := dep 14 _ _ (by kernel_rfl) rfl rfl
          have e14 : a.tmps[55]?.getD undef = (.int .u32 (w32 ((crc xa ^^^ crc xb) ^^^ crc (List.replicate k 0)))) := (Array.getD_eq_getD_getElem? ..).symm.trans d14
          refine wp_value (v := .bool true) (w' := w2) ?_ rfl (Abv.refl _)
          clear dep old ho hsz
          go_simp
          exact congrArg w32 HCX.out
        | 16, ho =>
          obtain rfl := Option.some.inj ho
          rw [if_pos (wanted_none rfl)]
          have d15 : a.tmps.getD 56 undef = (.bool true) := dep 15 _ _ (by kernel_rfl) rfl rfl
          have e15 : a.tmps[56]?.getD undef = (.bool true) := (Array.getD_eq_getD_getElem? ..).symm.trans d15
          refine wp_value (v := (.bool true)) (w' := w2) ?_ rfl (Abv.refl _)
          clear dep old ho hsz
          go_simp
        | i + 17, ho => exact absurd ho (by simp)
      · intro a w2 hup hsz hdf fin keep
        have hret : a.tmps.getD 4 undef = .bool true := fin 16 _ _ rfl rfl
        clear fin keep
        go_wp2
        refine bodyPost_ret (results_tmp rfl _ _ _) hdf ?_
        exact ⟨congrArg Ending.returned hret, Abv.trans (show Abv w wr from ha.out) hup⟩
end Go.Proofs.Ytmeibpmcpgognaa
