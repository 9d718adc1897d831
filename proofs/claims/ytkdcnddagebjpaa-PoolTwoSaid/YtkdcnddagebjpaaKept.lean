/-
  Contract of the statements' own 'kept': a page as the disk has it.
-/
import Derived.Test.YtkdcnddagebjpaaPl5
namespace Go.Proofs.Ytkdcnddagebjpaa
open Go.RowKit
set_option maxRecDepth 20000
set_option linter.unusedSimpArgs false
set_option linter.unusedVariables false

set_option maxHeartbeats 8000000 in
theorem kept_any {w : World} {X : Nat → Prop} {dg : Nat} {d : Ds} {gr : Rg} {k : Nat} (h : Many w X [(dg, d)]) (hd : DIs d 0 gr k) (hsz : 538 ≤ d.size) (n : Nat) (hn : n < 6) :
    Calls Try.prog 18 #[.pointer (some ⟨dg, 0, none⟩), .int .i64 (n : Int)] w fun e w' => ∃ x e', e = .returned (.tuple #[x.val, .bool (decide ((e' : Int) = 0))]) ∧ DecP (pgB gr.secs n 4) 0 n x e' ∧ Below w.heap.size w w' := by
  have H0 := hide h
  have HD := hide hd
  have HLEN := hide (pgB_length (n := n) (hd.fit.secs_full) hd.fit.secs_length hn hsz)
  obtain ⟨i0, hi, hz0, hz1, hz2⟩ := info_parts info8
  have hz := hide (pgb_new w pZ)
  have hb0 := hide ((Below.refl w.heap.size w).alloc (Nat.le_refl _) (.cells pZ.cells 53))
  have hn6 : (n : Int) < 6 := by omega
  clear h hd
  go_enter Try.func18, Try.ntmps18
  go_wp2
  go_loopw [6, 12] (fun u i wr => ∃ (j : Nat), j ≤ 4 ∧ i = .int .i64 j ∧ Hid (Mine wr (w.heap.size + 1) u (pgB gr.secs n j)) ∧ Hid (Below w.heap.size w wr) ∧ Hid (PgB wr w.heap.size pZ) ∧ Hid (w.heap.size + 1 ≤ wr.heap.size)) (fun _ i _ => 4 - (intOf i).toNat)
  case atStart => exact ⟨0, by omega, rfl, own_nil _ _ _, hb0, hz, hide (by simp)⟩
  case round =>
    obtain ⟨j, hj, rfl, hm, hb1, hpz, hs1⟩ := hrel
    by_cases hlt : j < 4
    · have H1 := hide (H0.out.below hb1.out)
      obtain ⟨b, hb2, hbs, hb64⟩ := HD.out.rd (show 514 + 4 * n + j < d.size by omega)
      have HBS := hide hbs
      have HL64 := hide hb64
      have hlt' : (j : Int) < 4 := by omega
      have hrd := read_two H1.out hb2
      have e0 : ((514 + 4 * n + j : Nat) : Int) = 514 + 4 * (n : Int) + (j : Int) := by omega
      have e00 : ((0 : Nat) : Int) = 0 := rfl
      unfold ptr at hrd
      rw [e0, e00] at hrd
      have hL := hide (HLEN.out j (by omega))
      clear hbs hb64 hb2 e0
      go_wp2_with (first
        | (go_at_call 44; ((with_reducible refine hrd.mono ?_); rintro e w2 ⟨v2, rfl, ⟨A2, c2, rfl, hr2⟩, hb2⟩; have R2 := hide hr2; have hB2 := hide (hb1.out.trans (hb2.mono hb1.out.size)); have hP2 := hide (hpz.out.below hb2); have hM2 := hide (hm.out.below hb2); have hS2 := hide (Nat.le_trans hs1.out hb2.size); clear hr2 hb2 hrd))
        | (at_builtin; refine wpList_append_rd rfl (.tmp 25) (.tmp 26) 58 rfl (base := w.heap.size + 1) 5 i0 (.int .u8 0) 1 Try.underlying58 hi hz0 hz1 hz2 rfl _ (pgB gr.secs n j).length (u8s (pgB gr.secs n j)) rfl hM2.out (.slice A2 64 c2) (u8s b) rfl R2.out (oneCell_u8s _) (by rw [u8s_length, hL.out, HL64.out]; unfold maxLen; omega) (by rw [u8s_length, hL.out, HL64.out]; omega) hS2.out ?_; intro v6 w6 own6 grow6 at6; have M6 : Hid (Mine w6 (w.heap.size + 1) v6 (pgB gr.secs n j ++ b)) := hide (mine_rd own6); have B6 := hide (hB2.out.grown grow6 hB2.out.size (fun k hk => by have := hM2.out.low k hk; omega)); have P6 := hide (hP2.out.grown grow6 (fun e => by have := hM2.out.low _ e; omega)); have S6 := hide (Nat.le_trans hS2.out grow6.size); clear own6 grow6 at6))
      go_roundw
      case rel =>
        refine ⟨j + 1, by omega, by go_num, ?_, B6, P6, S6⟩
        have e : pgB gr.secs n (j + 1) = pgB gr.secs n j ++ b := by rw [pgB, List.getD_eq_getElem?_getD, HBS.out]; rfl
        rw [e]
        exact M6
      case measure => simp [intOf]; omega
    · obtain rfl : j = 4 := by omega
      obtain ⟨A9, c9, hu9⟩ := hm.out.form
      subst hu9
      have hdec := decode_pg _ _ 0 n wr (by rw [HLEN.out 4 (by omega)]; omega) hm.out.rd
      have e00 : ((0 : Nat) : Int) = 0 := rfl
      unfold Pg.val Pg.cells at hdec
      rw [e00] at hdec
      go_upto_region 9 with (go_at_call 45; ((with_reducible refine hdec.mono ?_); rintro e w2 ⟨x, e', rfl, hx, hb2⟩; have HX := hide hx; have P2 := hide (hpz.out.below hb2); have B2 := hide (hb1.out.trans (hb2.mono hb1.out.size)); clear hx hb2 hdec))
      have hb3 := (Below.refl w2.heap.size w2).alloc (Nat.le_refl _) (.cells x.cells 53)
      have B3 := hide (B2.out.trans (hb3.mono B2.out.size))
      have P3 := P2.out.below hb3
      obtain ⟨z0, z1, z2, z3, z4, z5, z6, z7, zf⟩ := P3.zero_cells
      have hpb := pgb_new w2 x
      obtain ⟨s0, s1, s2, s3, s4⟩ := hpb.slots
      have m0 := hpb.markC
      have m1 := hpb.tenC
      have m2 := hpb.numC
      unfold Pg.cells at m0 m1 m2 s0 s1 s2 s3 s4 z0 z1 z2 z3 z4 z5 z6 z7 zf
      clear hb3 P3 hpb
      rcases HX.out with ⟨rfl, hx⟩ | ⟨rfl, hx⟩
      · clear hx
        go_wp2
        refine bodyPost_ret (v := .tuple #[x.val, .bool (decide ((0 : Int) = 0))]) (by simp [results, Try.results18, go_sem, z0, z1, z2, z3, z4, z5, z6, z7, Pg.val, Pg.cells]) rfl ⟨x, 0, rfl, HX.out, ?_⟩
        exact pg_set8_below (p := x) B3.out (Nat.le_refl _)
      · clear hx
        go_wp2
        refine bodyPost_ret (v := .tuple #[x.val, .bool (decide ((11 : Int) = 0))]) (by simp [results, Try.results18, go_sem, z0, z1, z2, z3, z4, z5, z6, z7, Pg.val, Pg.cells]) rfl ⟨x, 11, rfl, HX.out, ?_⟩
        exact pg_set8_below (p := x) B3.out (Nat.le_refl _)
end Go.Proofs.Ytkdcnddagebjpaa
