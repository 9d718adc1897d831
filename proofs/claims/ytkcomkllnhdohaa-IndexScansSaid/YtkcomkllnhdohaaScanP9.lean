/-
  IndexScans, its second loop: of the sorted list those of the table, between both keys, while there is room.
-/
import Derived.Test.YtkcomkllnhdohaaScanC9
namespace Go.Proofs.Ytkcomkllnhdohaa
open Go.RowKit Go.Shelf
set_option maxRecDepth 20000
set_option linter.unusedSimpArgs false
set_option linter.unusedVariables false

/-- The slots that it writes. -/
def SLP (t : Nat) : Bool := t == 15 || (decide (70 ≤ t) && decide (t ≤ 105))
theorem scn_slp (t : Nat) (h : SLP t = false) : SCN t = false := by
  simp only [SLP, SCN, Bool.or_eq_false_iff, Bool.and_eq_false_iff, decide_eq_false_iff_not, beq_eq_false_iff_ne] at h ⊢
  omega
/-- A frame in which only a stretch of slots is new. -/
theorem keeps_mid {S : Nat → Bool} {l : List Value} {tm : Array Value} (n k : Nat) (h : Keeps S ⟨l⟩ tm) (hS : ∀ t, S t = true → n ≤ t ∧ t < n + k) (hl : n + k ≤ l.length) : ∃ m : List Value, m.length = k ∧ tm = ⟨l.take n ++ (m ++ l.drop (n + k))⟩ := by
  obtain ⟨l2⟩ := tm
  have hsz : l2.length = l.length := h.1
  refine ⟨(l2.drop n).take k, ?_, ?_⟩
  · rw [List.length_take, List.length_drop]; omega
  · congr 1
    apply List.ext_getElem?
    intro t
    have hk := h.2 t
    simp only [List.getElem?_toArray] at hk
    rw [List.getElem?_append, List.length_take, Nat.min_eq_left (by omega)]
    split
    · rename_i ht
      rw [List.getElem?_take, if_pos ht]
      refine hk ?_
      cases e : S t with
      | false => rfl
      | true => have := hS t e; omega
    · rename_i ht
      have hlen : ((l2.drop n).take k).length = k := by rw [List.length_take, List.length_drop]; omega
      rw [List.getElem?_append, hlen]
      split
      · rename_i h2
        rw [List.getElem?_take, if_pos h2, List.getElem?_drop, Nat.add_sub_cancel' (by omega)]
      · rename_i h2
        rw [List.getElem?_drop, show n + k + (t - n - k) = t by omega]
        refine hk ?_
        cases e : S t with
        | false => rfl
        | true => have := hS t e; omega
theorem slots36 {m : List Value} (h : m.length = 36) : ∃ y70 y71 y72 y73 y74 y75 y76 y77 y78 y79 y80 y81 y82 y83 y84 y85 y86 y87 y88 y89 y90 y91 y92 y93 y94 y95 y96 y97 y98 y99 y100 y101 y102 y103 y104 y105 : Value, m = [y70, y71, y72, y73, y74, y75, y76, y77, y78, y79, y80, y81, y82, y83, y84, y85, y86, y87, y88, y89, y90, y91, y92, y93, y94, y95, y96, y97, y98, y99, y100, y101, y102, y103, y104, y105] := by
  match m, h with
  | y70 :: y71 :: y72 :: y73 :: y74 :: y75 :: y76 :: y77 :: y78 :: y79 :: y80 :: y81 :: y82 :: y83 :: y84 :: y85 :: y86 :: y87 :: y88 :: y89 :: y90 :: y91 :: y92 :: y93 :: y94 :: y95 :: y96 :: y97 :: y98 :: y99 :: y100 :: y101 :: y102 :: y103 :: y104 :: y105 :: [], _ => exact ⟨y70, y71, y72, y73, y74, y75, y76, y77, y78, y79, y80, y81, y82, y83, y84, y85, y86, y87, y88, y89, y90, y91, y92, y93, y94, y95, y96, y97, y98, y99, y100, y101, y102, y103, y104, y105, rfl⟩
/-- What it leaves of a frame: slot 15, and 70 to 105, are new. -/
theorem slp_frame {l : List Value} {tm : Array Value} (h : Keeps SLP ⟨l⟩ tm) (hl : l.length = 156) : ∃ (m : List Value) (y15 : Value), m.length = 36 ∧ tm = ⟨(l.set 15 y15).take 70 ++ (m ++ l.drop 106)⟩ := by
  have h2 : Keeps (fun t => decide (70 ≤ t) && decide (t ≤ 105)) ⟨l.set 15 (tm.getD 15 undef)⟩ tm := by
    refine ⟨by rw [h.1]; simp, fun t ht => ?_⟩
    have ht : (decide (70 ≤ t) && decide (t ≤ 105)) = false := ht
    by_cases e : t = 15
    · subst e
      have : 15 < tm.size := by rw [h.1]; show 15 < l.length; omega
      rw [Array.getD_eq_getD_getElem?, Array.getElem?_eq_getElem this]
      simp [hl]
    · have h3 := h.2 t (by unfold SLP; rw [ht, Bool.or_false, beq_eq_false_iff_ne]; exact e)
      rw [h3]
      simp [List.getElem?_set, Ne.symm e]
  obtain ⟨m, hm, he⟩ := keeps_mid 70 36 h2 (fun t ht => by rw [Bool.and_eq_true, decide_eq_true_iff, decide_eq_true_iff] at ht; omega) (by rw [List.length_set]; omega)
  refine ⟨m, tm.getD 15 undef, hm, ?_⟩
  conv => lhs; rw [he]
  rw [List.drop_set_of_lt (by omega)]
set_option maxHeartbeats 8000000 in
theorem scans_loop {w0 w : World} {F0 : Nat → Prop} {g4 gh gr g b n c tb ms wb c1 : Nat} {h0 h1 ts : Int} {sa sb : ByteArray} {f : ByteArray → Option It} {xs : List It} {A1 : Option Addr}
    (S7 : Ow w0 F0 w [.blk g4 43 #[.string sa, .string sb], .blk gh 44 #[.int .i64 h0, .int .i64 h1], .blk gr 4 #[.bool false], .ix g xs, .map b n f c, .blk tb 3 #[.int .i64 ms], .its (.slice none 0 0) [], .blk wb 25 #[(.slice none 0 0)], .its (.slice A1 xs.length c1) xs]) (hxl : xs.length ≤ 200)
    {tm : Array Value} (hs : tm.size = 156) (f4 : tm[4]? = some (.pointer (some ⟨g4, 0, none⟩))) (f11 : tm[11]? = some (.int .i64 ts)) (f12 : tm[12]? = some (.pointer (some ⟨tb, 0, none⟩))) (f13 : tm[13]? = some (.pointer (some ⟨wb, 0, none⟩))) (f68 : tm[68]? = some (.slice A1 xs.length c1)) (f69 : tm[69]? = some (.int .i64 (xs.length : Int))) (f70 : tm[70]? = some (.int .i64 0))
    {Q : Exit → Act → World → Prop} (hK : ∀ tm' w' v2, Keeps SLP tm tm' → Ow w0 F0 w' [.blk g4 43 #[.string sa, .string sb], .blk gh 44 #[.int .i64 h0, .int .i64 h1], .blk gr 4 #[.bool false], .ix g xs, .map b n f c, .blk tb 3 #[.int .i64 ms], .its v2 ((xs.filter (pB ts sa sb)).take ms), .blk wb 25 #[v2], .its (.slice A1 xs.length c1) xs] → Q .normal ⟨tm', []⟩ w') :
    Code.wp Try.prog (subC (Try.f4.body.getD .skip) [1,1,1,1,1,1,1,1,0,1]) Q ⟨tm, []⟩ w := by
  have HK := hide hK
  have HXL := hide hxl
  have e0 : ((xs.take 0).filter (pB ts sa sb)).take ms = [] := by simp
  have S7' : Hid (Ow w0 F0 w [.blk g4 43 #[.string sa, .string sb], .blk gh 44 #[.int .i64 h0, .int .i64 h1], .blk gr 4 #[.bool false], .ix g xs, .map b n f c, .blk tb 3 #[.int .i64 ms], .its (.slice none 0 0) (((xs.take 0).filter (pB ts sa sb)).take ms), .blk wb 25 #[(.slice none 0 0)], .its (.slice A1 xs.length c1) xs]) := hide (by rw [e0]; exact S7)
  clear hK S7 hxl e0
  conv => arg 2; whnf
  refine wp_block ?_
  refine wp_loop (fun a w' => ∃ (tm' : Array Value) (j : Nat) (v2 : Value), a = ⟨tm', []⟩ ∧ j ≤ xs.length ∧ Keeps SLP tm tm' ∧ tm'[70]? = some (.int .i64 (j : Int)) ∧ Hid (Ow w0 F0 w' [.blk g4 43 #[.string sa, .string sb], .blk gh 44 #[.int .i64 h0, .int .i64 h1], .blk gr 4 #[.bool false], .ix g xs, .map b n f c, .blk tb 3 #[.int .i64 ms], .its v2 (((xs.take j).filter (pB ts sa sb)).take ms), .blk wb 25 #[v2], .its (.slice A1 xs.length c1) xs])) (fun a _ => xs.length - (intOf (a.tmps.getD 70 undef)).toNat) ⟨_, 0, _, rfl, by omega, Keeps.refl _ _, f70, S7'⟩ ?_
  rintro a w' ⟨tm1, j, v2, rfl, hj, hkp, fj, hq⟩
  have hs1 : tm1.size = 156 := hkp.1.trans hs
  have hmu : intOf (tm1.getD 70 undef) = (j : Int) := by rw [slot_getD fj]; rfl
  have k4 := slot_at (hkp.get (t := 4) rfl f4) (by omega)
  have k11 := slot_at (hkp.get (t := 11) rfl f11) (by omega)
  have k12 := slot_at (hkp.get (t := 12) rfl f12) (by omega)
  have k13 := slot_at (hkp.get (t := 13) rfl f13) (by omega)
  have k68 := slot_at (hkp.get (t := 68) rfl f68) (by omega)
  have k69 := slot_at (hkp.get (t := 69) rfl f69) (by omega)
  have kj := slot_at fj (by omega)
  clear S7' hs f70 f4 f11 f12 f13 f68 f69
  by_cases hlt : j < xs.length
  · obtain ⟨y, hy⟩ : ∃ y, xs[j]? = some y := ⟨_, List.getElem?_eq_getElem hlt⟩
    obtain ⟨ga, hga⟩ : ∃ ga, A1 = some ⟨ga, 0, none⟩ := by
      obtain ⟨g', c', h, _⟩ := (hq.out.its (i := 8) rfl).block (by omega)
      injection h with h
      exact ⟨g', h⟩
    subst hga
    obtain ⟨A2, c2, hv2⟩ := (hq.out.its (i := 6) rfl).form
    have hE := few_step (ms := ms) hy ts sa sb
    obtain ⟨M, hM⟩ : ∃ M, ((xs.take j).filter (pB ts sa sb)).take ms = M := ⟨_, rfl⟩
    rw [hM] at hq hv2 hE
    subst hv2
    have HMS := hide (show M.length ≤ 200 by rw [← hM, List.length_take]; have := List.length_filter_le (pB ts sa sb) (xs.take j); rw [List.length_take] at this; have := HXL.out; omega)
    obtain ⟨t0, t1, t2, t3, t4⟩ := Its.cells (hq.out.its (i := 8) rfl) rfl hy
    have S8 := hide (hq.out.box 32 #[.int .i64 y.t, .string y.key, .string y.val, .int .i64 y.p, .int .i64 y.s])
    have HLT := hide hlt
    have q0 : (0 : Int) ≤ (j : Int) := by omega
    have q1 : (j : Int) < (xs.length : Int) := by omega
    have q2 : (j : Int) < 1000 := by have := HXL.out; omega
    clear hlt hj hM hy
    go_upto_if 71 with fail
    refine wp_cond_true (by simp [Act.eval, hs1, q1, HLT.out]) ?_
    go_upto_region 19 with fail
    clear t0 t1 t2 t3 t4
    obtain ⟨t0, t1, t2, t3, t4⟩ := item_cells (S8.out.blk (i := 9) rfl)
    refine scans_test (ts := ts) ((S8.out.blk (i := 0) rfl).cell 0 _ rfl) ((S8.out.blk (i := 0) rfl).cell 1 _ rfl) ((S8.out.blk (i := 5) rfl).cell 0 _ rfl) ((S8.out.blk (i := 7) rfl).cell 0 _ rfl) t0 t1 (by simp [hs1]) (by simp [hs1, k4]) (by simp [hs1, k11]) (by simp [hs1, k12]) (by simp [hs1, k13]) (by simp [hs1]) ?_
    intro tm2 hkeep hv100
    have hs2 : tm2.size = 156 := hkeep.1.trans (by simp [hs1])
    have hkp2 : Keeps SLP tm tm2 := hkp.trans (Keeps.trans (show Keeps SLP tm1 _ from (by repeat (first | (with_reducible exact Keeps.refl _ _) | ((with_reducible refine Keeps.put ?_ ?_ _); rfl)))) (Keeps.more hkeep scn_slp))
    have k13 := slot_at (hkeep.get (t := 13) (v := .pointer (some ⟨wb, 0, none⟩)) rfl (by simp [hs1, k13])) (by omega)
    have k15 := slot_at (hkeep.get (t := 15) (v := .pointer (some ⟨w'.heap.size, 0, none⟩)) rfl (by simp [hs1])) (by omega)
    have kj := slot_at (hkeep.get (t := 70) (v := .int .i64 (j : Int)) rfl (by simp [hs1, kj])) (by omega)
    cases hok : okB ts sa sb y M.length ms
    · rw [hok] at hE hv100
      have hE : _ = M := hE.trans (List.append_nil _)
      have z1 := slot_at hv100 (by omega)
      clear hkeep
      go_wp2
      refine wp_cond_false (by simp [Act.eval, hv100]) ?_
      go_wp2
      refine ⟨⟨_, j + 1, .slice A2 M.length c2, rfl, by have := HLT.out; omega, (by repeat (first | (with_reducible exact hkp2) | ((with_reducible refine Keeps.put ?_ ?_ _); rfl))), by simp [hs2], hide ?_⟩, ?_⟩
      · rw [hE]
        exact S8.out.take 9
      · rw [hmu]
        simp [intOf, hs2, Array.getD_eq_getD_getElem?]
        have := HLT.out
        omega
    · rw [hok] at hE hv100
      have hE : _ = M ++ [y] := hE
      have z1 := slot_at hv100 (by omega)
      have HFW : Hid (M.length ≤ 100000) := hide (by have := HMS.out; omega)
      have S9 : Hid (Ow w0 F0 ((w'.alloc (.cells #[.int .i64 y.t, .string y.key, .string y.val, .int .i64 y.p, .int .i64 y.s] 32)).alloc (.cells #[.int .i64 y.t, .string y.key, .string y.val, .int .i64 y.p, .int .i64 y.s] 32)) [.blk g4 43 #[.string sa, .string sb], .blk gh 44 #[.int .i64 h0, .int .i64 h1], .blk gr 4 #[.bool false], .ix g xs, .map b n f c, .blk tb 3 #[.int .i64 ms], .its (.slice A2 M.length c2) M, .blk wb 25 #[(.slice A2 M.length c2)], .its (.slice (some ⟨ga, 0, none⟩) xs.length c1) xs, .blk w'.heap.size 32 #[.int .i64 y.t, .string y.key, .string y.val, .int .i64 y.p, .int .i64 y.s], .blk (w'.heap.size + 1) 32 #[.int .i64 y.t, .string y.key, .string y.val, .int .i64 y.p, .int .i64 y.s]]) := hide (by
        have h := S8.out.box 32 #[.int .i64 y.t, .string y.key, .string y.val, .int .i64 y.p, .int .i64 y.s]
        rw [World.size_alloc] at h
        exact h)
      have HITS := hide (S9.out.its (i := 6) rfl)
      have HCX : Hid (∀ i u, y.cells[i]? = some u → ((w'.alloc (.cells #[.int .i64 y.t, .string y.key, .string y.val, .int .i64 y.p, .int .i64 y.s] 32)).alloc (.cells #[.int .i64 y.t, .string y.key, .string y.val, .int .i64 y.p, .int .i64 y.s] 32)).cell? ⟨w'.heap.size + 1, i, none⟩ = some u) := hide (fun i u hi => (S9.out.blk (i := 10) rfl).cell i u (by rw [← hi, ← Array.getElem?_toList]; rfl))
      have c7 := (hq.out.blk (i := 7) rfl).cell 0 _ rfl
      have cl7 := (hq.out.blk (i := 7) rfl).lt
      clear hkeep hok
      go_wp2
      refine wp_cond_true (by simp [Act.eval, hv100]) ?_
      go_wp2_with (at_builtin; go_loud (refine wpList_append_it (c := 1) rfl (.tmp 101) (.tmp 103) rfl Try.underlying25 infoI rfl (by decide) (by simp [Act.eval, hs2]) HITS.out HFW.out (Nat.zero_le _) (by simp [Act.eval, hs2]) HCX.out ?_; intro v' w5 h1 h2 h3; have S10 := hide (S9.out.row (i := 6) rfl h1 h2 h3); obtain ⟨An', cn', rfl⟩ : ∃ A c, v' = .slice A (M.length + 1) c := (by (obtain ⟨A, c, h⟩ := h1.form; exact ⟨A, c, by (rw [h, List.length_append]; rfl)⟩)); have b0 := (S10.out.blk (i := 7) rfl).cell 0 _ rfl; have bf := (S10.out.blk (i := 7) rfl).frozen 0; clear h1 h2 h3))
      refine ⟨⟨_, j + 1, .slice An' (M.length + 1) cn', rfl, by have := HLT.out; omega, (by repeat (first | (with_reducible exact hkp2) | ((with_reducible refine Keeps.put ?_ ?_ _); rfl))), by simp [hs2], hide ?_⟩, ?_⟩
      · rw [hE]
        exact (S10.out.set_ (i := 7) rfl 0 _).take 9
      · rw [hmu]
        simp [intOf, hs2, Array.getD_eq_getD_getElem?]
        have := HLT.out
        omega
  · obtain rfl : j = xs.length := by omega
    clear hlt hj
    rw [List.take_length] at hq
    go_upto_if 71 with fail
    refine wp_cond_false (by simp [Act.eval, hs1]) ?_
    go_wp2
    exact HK.out _ _ _ (by repeat (first | (with_reducible exact hkp) | ((with_reducible refine Keeps.put ?_ ?_ _); rfl))) hq.out
end Go.Proofs.Ytkcomkllnhdohaa
