/-
  Contract of package pool: save.
-/
import Derived.Test.YtkdcnddagebjpaaPo3
namespace Go.Proofs.Ytkdcnddagebjpaa
open Go.RowKit
set_option maxRecDepth 20000
set_option linter.unusedSimpArgs false
set_option linter.unusedVariables false

section
variable {w w' : World} {X Y : Nat → Prop} {dg : Nat} {d : Ds} {g : Nat} {l l1 : Ln} {kv : Value} {q : Nat} {P : Po} {gr : Rg} {k : Nat}
theorem exec_highT {o : Oper} {a : Act} {w : World} {x y : Operand} {A : Option Addr} {n c : Nat} (k : Nat) (ho : o.op = .slice 58 x (some y) none none) (hx : a.eval x = .slice A n c) (hy : a.eval y = .int .i64 (k : Int)) (hk : k ≤ n) :
    (execOp a.eval o).run Try.prog w = .ok (.value (.slice (hiA A c k) (n - k) (c - k))) w := by
  have hr := run_high (P := Try.prog) slice8 size8 A n c k hk w
  unfold execOp
  simp only [ho, hx, hy, Option.map_none, Option.map_some, Sem.run_bind, run_sliceAt_slice (P := Try.prog) (w := w) (h := slice8), hr, Result.andThen_ok, Sem.run_pure]
theorem PAt.sub (h : PAt w X dg d g l kv q P) (hY : ∀ k, Y k → X k) : PAt w Y dg d g l kv q P := h.more (Below.refl _ _) (fun k hk => .inl (hY k hk))
/-- Where calls of the lane's and the disk's have led, the pool beside them. -/
def PWent (w w' : World) (X : Nat → Prop) (dg : Nat) (d : Ds) (g : Nat) (l : Ln) (q : Nat) (P : Po) (gr : Rg) (k : Nat) : Prop := ∃ d' kv', Next d P.r gr k d' ∧ PAt w' X dg d' g l kv' q P ∧ Out X w w'
theorem pad_full {b : List UInt8} (h : b.length = 64) : pad b = b := by
  unfold pad
  rw [h]
  exact List.append_nil _
theorem wrote_pg {w2 : World} (h : PAt w2 X dg d g l kv q P) (hd : DIs d P.r gr k) (hk : k ≤ 1000000) (s : Nat) (hs : s < d.size) {b : List UInt8} (hn : b.length = 64) {A : Option Addr} {c : Nat} (hv : Rd w2 (.slice A 64 c) (u8s b)) (hb : Below w.heap.size w w2) :
    Calls Try.prog 19 #[ptr dg, .int .i64 (P.r : Int), .int .i64 (s : Int), .slice A 64 c] w2 fun e w' => ∃ v, e = .returned v ∧ v = .int .i64 (cd (gr.run [.w s b]).2) ∧ PWent w w' X dg d g l q P (gr.run [.w s b]).1 (k + 1) := by
  refine (write_lane h.ln (hd.small.more hk) hn (P.r : Int) (s : Int) hv (Below.refl _ _)).mono ?_
  rintro e w' ⟨v, rfl, rfl, h1, h2⟩
  obtain ⟨h3, h4⟩ := hd.write hs (b := b) (by omega)
  rw [pad_full hn] at h3 h4
  rw [hn] at h3
  have ho := h2.less (X := PX X q P) (fun _ h => .inl h)
  exact ⟨_, rfl, by rw [h3], _, _, h4, h.laned h1 ho, (Out.of_below hb).trans (PAt.outX ho)⟩
theorem barred_pg {w2 : World} (h : PAt w2 X dg d g l kv q P) (hd : DIs d P.r gr k) (hb : Below w.heap.size w w2) :
    Calls Try.prog 60 #[ptr dg, .int .i64 (P.r : Int)] w2 fun e w' => ∃ v, e = .returned v ∧ v = .int .i64 (cd (gr.run [.bar]).2) ∧ PWent w w' X dg d g l q P (gr.run [.bar]).1 k := by
  refine (barrier_many (i := 0) h.ln.many rfl (P.r : Int)).mono ?_
  rintro e w' ⟨rfl, h1, h2⟩
  obtain ⟨h3, h4⟩ := hd.bar
  have ho := h2.less (X := PX X q P) (fun _ h => .inl h)
  exact ⟨_, rfl, by rw [h3], _, _, h4, h.laned (h.ln.turned h1 h2) ho, (Out.of_below hb).trans (PAt.outX ho)⟩
/-- What Flush does. -/
def flD (l : Ln) : List Do := if l.sure = l.kept.length then [] else flushD l
def flL (l : Ln) (ok : Bool) : Ln := if l.sure = l.kept.length then l else sel ok l.hard l
theorem flL_r (l : Ln) (ok : Bool) : (flL l ok).r = l.r := by
  unfold flL
  split
  · rfl
  · exact hard_r l ok
theorem flush_po (h : PAt w X dg d g l kv q P) (hf : l.Fit) (hlr : l.r = P.r) (hd : DIs d P.r gr k) (hk : k ≤ 800000) :
    Calls Try.prog 64 #[.pointer (some ⟨g, 0, none⟩)] w fun e w' => ∃ v, e = .returned v ∧ v = .int .i64 (cd (gr.run (flD l)).2) ∧ PWent w w' X dg d g (flL l (gr.run (flD l)).2) q P (gr.run (flD l)).1 (k + 301) := by
  unfold flD flL
  by_cases he : l.sure = l.kept.length
  · refine (flush_none (gr := gr) (k := k) h.ln he).mono ?_
    rintro e w' ⟨rfl, hb⟩
    rw [if_pos he, if_pos he]
    exact ⟨_, rfl, rfl, d, kv, hd.next.more (by omega), h.below hb, Out.of_below hb⟩
  · rw [← hlr] at hd
    refine (flush_ln h.ln hf hd hk he).mono ?_
    rintro e w' ⟨v, rfl, rfl, d', kv', hnx, hln, ho⟩
    rw [if_neg he, if_neg he]
    rw [hard_r, hlr] at hnx
    exact ⟨_, rfl, rfl, d', kv', hnx, h.laned hln ho, PAt.outX ho⟩
/-- A page is written. -/
def pageD1 (n : Nat) (B : List UInt8) (j : Nat) : Do := .w (514 + 4 * n + j) ((B.drop (j * 64)).take 64)
def pageD (n : Nat) (B : List UInt8) : List Do := (List.range 4).map (pageD1 n B)
theorem pageD_take (n : Nat) (B : List UInt8) (j : Nat) (h : j < 4) : (pageD n B).take (j + 1) = (pageD n B).take j ++ [pageD1 n B j] := by
  rw [List.take_succ_eq_append_getElem (by simp [pageD]; exact h)]
  congr 1
  simp [pageD]
def saveT (l : Ln) (n : Nat) (B : List UInt8) : List Do := flD l ++ (pageD n B ++ [.bar])
def Fm.saved (x : Fm) : Fm := ⟨x.pb, x.num, x.req, false, 0, x.pg⟩
theorem encode_kp (p : Pg) (w : World) (hs : p.sized) (ht : p.ten < 65536) (hn : p.num < 65536) :
    Calls Try.prog 65 #[.agg #[.int .u64 (p.mark : Int), .int .i64 (p.ten : Int), .int .i64 (p.num : Int), .string (p.s 0), .string (p.s 1), .string (p.s 2), .string (p.s 3), .string (p.s 4)]] w fun e w' => ∃ A c, e = .returned (.slice A 256 c) ∧ Kp w' (.slice A 256 c) p.encL ∧ (∀ k, blkOf (.slice A 256 c) = some k → w.heap.size ≤ k ∧ k < w'.heap.size) ∧ Below w.heap.size w w' := by
  refine (encode_pg w hs ht hn).mono ?_
  rintro e w' ⟨v', rfl, hm, hb⟩
  have hl := Pg.encL_length hs
  obtain ⟨A, c, rfl⟩ := hm.form
  rw [hl] at hm ⊢
  have hr := hm.rd
  refine ⟨A, c, rfl, ⟨A, c, by rw [hl], hr, .inr (hm.more (Nat.zero_le _))⟩, ?_, hb⟩
  obtain ⟨g, rfl, h1, h2, _⟩ := mine_at hm (by omega)
  intro k hk
  obtain rfl := Option.some.inj hk
  exact ⟨h1, h2⟩
theorem Kp.rd256 {A : Option Addr} {c : Nat} {B : List UInt8} (h : Kp w (.slice A 256 c) B) : Rd w (.slice A 256 c) (u8s B) := by
  obtain ⟨A', c', e, hr, _⟩ := h
  exact hr
/-- What save answers. -/
def SaveRet (w : World) (X : Nat → Prop) (dg : Nat) (d : Ds) (g : Nat) (l : Ln) (q : Nat) (P : Po) (z n : Nat) (B : List UInt8) (gr : Rg) (k : Nat) (e : Ending) (w' : World) : Prop :=
  ∃ v, e = .returned v ∧ v = .int .i64 (cd (gr.run (saveT l n B)).2) ∧ ∃ d' kv', Next d P.r (gr.run (saveT l n B)).1 k d' ∧ PAt w' X dg d' g (flL l (gr.run (flD l)).2) kv' q (cond (gr.run (saveT l n B)).2 (P.set z (P.f z).saved) P) ∧ Out X w w'
set_option maxHeartbeats 16000000 in
theorem save_po (h : PAt w X dg d g l kv q P) (hf : l.Fit) (hlr : l.r = P.r) (hd : DIs d P.r gr k) (hk : k ≤ 700000) (hsz : 538 ≤ d.size) {z b n : Nat} {p : Pg} (hz : z < 3) (hb : (P.f z).pb = some b) (hn : (P.f z).num = n) (hn6 : n < 6) (hdy : (P.f z).dirty = true) (hp : (P.f z).pg = p) (hps : p.sized) (ht : p.ten < 65536) (hnm : p.num < 65536) :
    Calls Try.prog 38 #[.pointer (some ⟨q, 0, none⟩), .pointer (some ⟨q, 3 + z * 5, none⟩)] w (SaveRet w X dg d g l q P z n p.encL gr (k + 310)) := by
  have hfl := flush_po h hf hlr hd (by omega)
  obtain ⟨f0, f1, f2, f3, f4⟩ := h.cell hz
  obtain ⟨c0, c1, c2, c18⟩ := h.head
  rw [hdy] at f3
  unfold ptr at c0 c2
  have HN := hide hn
  have HB := hide hb
  have HP := hide hp
  have HPS := hide hps
  have HL := hide (Pg.encL_length hps)
  rcases hr0 : gr.run (flD l) with ⟨g1, b1⟩
  rw [hr0] at hfl
  generalize hB : p.encL = B at *
  have HBB := hide hB
  clear h hd hf hdy hn hb hp hB hps f0 f1 f2 f4 c0 c1 c18
  go_enter Try.func38, Try.ntmps38
  cases b1
  · have HE := hide (run_no hr0 (pageD n B ++ [.bar]))
    have HR0 := hide hr0
    clear hr0
    go_wp2_with (go_at_call 64; refine hfl.mono ?_; rintro e w1 ⟨v, rfl, rfl, hw⟩; try simp only [cd, Bool.false_eq_true, if_false])
    go_ret
    obtain ⟨d', kv', hnx, hpa, ho⟩ := hw
    unfold SaveRet saveT
    rw [HE.out, HR0.out]
    exact ⟨_, rfl, rfl, d', kv', hnx.more (by omega), hpa, ho⟩
  · have HE := hide (run_yes hr0 (pageD n B ++ [.bar]))
    have HR0 := hide hr0
    clear hr0
    go_upto_region 7 with (first
      | (go_at_call 64; refine hfl.mono ?_; rintro e w1 ⟨v, rfl, rfl, d1, kv1, hnx, hpa, ho⟩; (try simp only [cd, if_true]); have N1 := hide hnx; have H1 := hide hpa; have O1 := hide ho; have f0 := (hpa.cell hz).1; rw [HB.out] at f0; unfold pv at f0; have hpg := (hpa.pg z b hz HB.out).1; rw [HP.out] at hpg; have m0 := hpg.markC; have m1 := hpg.tenC; have m2 := hpg.numC; obtain ⟨m3, m4, m5, m6, m7⟩ := hpg.slots; have henc := encode_kp p w1 HPS.out ht hnm; rw [HBB.out] at henc; clear hnx hpa ho hpg hfl)
      | (go_at_call 65; refine henc.mono ?_; rintro e w2 ⟨BA, bc, rfl, hkp, hbl, hb2⟩; have KB1 := hide hkp; have BL := hide hbl; have B2 := hide hb2; clear hkp hbl hb2 henc))
    clear f0 m0 m1 m2 m3 m4 m5 m6 m7 c2 f3
    have hsz1 : 538 ≤ d1.size := by rw [N1.out.same]; exact hsz
    have H2 := hide (H1.out.more (Y := fun k => X k ∨ blkOf (.slice BA 256 bc) = some k) B2.out (by rintro k (h1 | h1); exact .inl h1; exact .inr (BL.out k h1)))
    have KB2 := KB1
    go_wp2
    generalize hk1 : k + 301 = k1 at *
    go_loopw [30] (fun u wr => ∃ (j : Nat) (dj : Ds) (kvj : Value), j ≤ 4 ∧ u = .int .i64 j ∧ (g1.run ((pageD n B).take j)).2 = true ∧ Hid (Next d1 P.r (g1.run ((pageD n B).take j)).1 (k1 + j) dj) ∧ Hid (PAt wr (fun k => X k ∨ blkOf (.slice BA 256 bc) = some k) dg dj g (flL l true) kvj q P) ∧ Hid (Kp wr (.slice BA 256 bc) B) ∧ Hid (Out X w wr)) (fun u _ => 4 - (intOf u).toNat)
    case atStart => exact ⟨0, d1, kv1, by omega, rfl, rfl, hide (N1.out.is.next), H2, KB2, hide (O1.out.trans (Out.of_below B2.out))⟩
    case round =>
      obtain ⟨j, dj, kvj, hj, rfl, hrun, N4, H4, KB, O4⟩ := hrel
      generalize hgj : (g1.run ((pageD n B).take j)).1 = gj at *
      have D4 := hide N4.out.is
      generalize hl1 : flL l true = l1 at *
      by_cases hlt : j < 4
      · have hlt' : (j : Int) < 4 := by omega
        have HJ := hide (show j * 64 ≤ 256 by omega)
        have HCC := hide (show 64 ≤ bc - j * 64 by have := rd_cap KB.out.rd256; omega)
        have HC := hide (show ((B.drop (j * 64)).take 64).length = 64 by rw [List.length_take, List.length_drop, HL.out]; omega)
        have HS := hide (show 514 + 4 * n + j < dj.size by rw [N4.out.same]; omega)
        have hkj : k1 + j ≤ 1000000 := by omega
        have TK := hide (pageD_take n B j hlt)
        go_upto_region 10 with fail
        refine region_last 20 53 [Say.is (.pointer (some ⟨q, 0, none⟩)), Say.is (.pointer (some ⟨q, 0, none⟩)), Say.is (.pointer (some ⟨q, 0, none⟩)), Say.is (ptr dg), Say.is (.pointer (some ⟨q, 0, none⟩)), Say.is (.pointer (some ⟨q, 0, none⟩)), Say.is (.pointer (some ⟨q, 1, none⟩)), Say.is (.int .i64 (P.r : Int)), Say.is (.pointer (some ⟨q, 3 + z * 5, none⟩)), Say.is (.pointer (some ⟨q, 3 + z * 5, none⟩)), Say.is (.pointer (some ⟨q, 3 + z * 5 + 1, none⟩)), Say.is (.int .i64 (n : Int)), Say.is (.int .i64 ((514 + 4 * n : Nat) : Int)), Say.is (.int .i64 (j : Int)), Say.is (.int .i64 ((514 + 4 * n + j : Nat) : Int)), Say.is (.slice BA 256 bc), Say.is (.int .i64 (j : Int)), Say.is (.int .i64 ((j * 64 : Nat) : Int)), Say.is (.slice (hiA BA bc (j * 64)) (256 - j * 64) (bc - j * 64)), Say.rd 64 ((B.drop (j * 64)).take 64)] (fun v w' => v = .int .i64 (cd (gj.run [pageD1 n B j]).2) ∧ PWent wr w' (fun k => X k ∨ blkOf (.slice BA 256 bc) = some k) dg dj g l1 q P (gj.run [pageD1 n B j]).1 (k1 + j + 1)) rfl rfl rfl (by kernel_rfl) (by kernel_rfl) (by kernel_rfl) (by kernel_rfl) (by kernel_rfl) ?_ ?_ ?_ ?_
        · intro i o hik ho a w2 hb hsz old dep
          match i, ho with
          | 0, ho =>
            obtain rfl := Option.some.inj ho
            have o0 : a.tmps.getD 0 undef = _ := old 0 (by kernel_rfl)
            rw [if_pos (wanted_none rfl)]
            refine grow_same (v := .pointer (some ⟨q, 0, none⟩)) ?_ rfl
            clear old dep ho hsz hb
            go_simp
          | 1, ho =>
            obtain rfl := Option.some.inj ho
            have d0 : a.tmps.getD 33 undef = .pointer (some ⟨q, 0, none⟩) := dep 0 _ _ (by kernel_rfl) rfl rfl
            have e0 : a.tmps[33]?.getD undef = _ := (Array.getD_eq_getD_getElem? ..).symm.trans d0
            rw [if_pos (wanted_none rfl)]
            refine grow_same (v := .pointer (some ⟨q, 0, none⟩)) ?_ rfl
            clear old dep ho hsz hb
            go_simp
          | 2, ho =>
            obtain rfl := Option.some.inj ho
            have d1 : a.tmps.getD 34 undef = .pointer (some ⟨q, 0, none⟩) := dep 1 _ _ (by kernel_rfl) rfl rfl
            have e1 : a.tmps[34]?.getD undef = _ := (Array.getD_eq_getD_getElem? ..).symm.trans d1
            rw [if_pos (wanted_none rfl)]
            refine grow_same (v := .pointer (some ⟨q, 0, none⟩)) ?_ rfl
            clear old dep ho hsz hb
            go_simp
          | 3, ho =>
            obtain rfl := Option.some.inj ho
            have d2 : a.tmps.getD 35 undef = .pointer (some ⟨q, 0, none⟩) := dep 2 _ _ (by kernel_rfl) rfl rfl
            have e2 : a.tmps[35]?.getD undef = _ := (Array.getD_eq_getD_getElem? ..).symm.trans d2
            rw [if_pos (wanted_none rfl)]
            obtain ⟨hc0, hc1, hc2, hc18⟩ := (H4.out.below hb).head
            refine grow_same (v := ptr dg) ?_ rfl
            clear old dep ho hsz hb
            go_simp
          | 4, ho =>
            obtain rfl := Option.some.inj ho
            have o0 : a.tmps.getD 0 undef = _ := old 0 (by kernel_rfl)
            rw [if_pos (wanted_none rfl)]
            refine grow_same (v := .pointer (some ⟨q, 0, none⟩)) ?_ rfl
            clear old dep ho hsz hb
            go_simp
          | 5, ho =>
            obtain rfl := Option.some.inj ho
            have d4 : a.tmps.getD 37 undef = .pointer (some ⟨q, 0, none⟩) := dep 4 _ _ (by kernel_rfl) rfl rfl
            have e4 : a.tmps[37]?.getD undef = _ := (Array.getD_eq_getD_getElem? ..).symm.trans d4
            rw [if_pos (wanted_none rfl)]
            refine grow_same (v := .pointer (some ⟨q, 0, none⟩)) ?_ rfl
            clear old dep ho hsz hb
            go_simp
          | 6, ho =>
            obtain rfl := Option.some.inj ho
            have d5 : a.tmps.getD 38 undef = .pointer (some ⟨q, 0, none⟩) := dep 5 _ _ (by kernel_rfl) rfl rfl
            have e5 : a.tmps[38]?.getD undef = _ := (Array.getD_eq_getD_getElem? ..).symm.trans d5
            rw [if_pos (wanted_none rfl)]
            refine grow_same (v := .pointer (some ⟨q, 1, none⟩)) ?_ rfl
            clear old dep ho hsz hb
            go_simp
          | 7, ho =>
            obtain rfl := Option.some.inj ho
            have d6 : a.tmps.getD 39 undef = .pointer (some ⟨q, 1, none⟩) := dep 6 _ _ (by kernel_rfl) rfl rfl
            have e6 : a.tmps[39]?.getD undef = _ := (Array.getD_eq_getD_getElem? ..).symm.trans d6
            rw [if_pos (wanted_none rfl)]
            obtain ⟨hc0, hc1, hc2, hc18⟩ := (H4.out.below hb).head
            refine grow_same (v := .int .i64 (P.r : Int)) ?_ rfl
            clear old dep ho hsz hb
            go_simp
          | 8, ho =>
            obtain rfl := Option.some.inj ho
            have o1 : a.tmps.getD 1 undef = _ := old 1 (by kernel_rfl)
            rw [if_pos (wanted_none rfl)]
            refine grow_same (v := .pointer (some ⟨q, 3 + z * 5, none⟩)) ?_ rfl
            clear old dep ho hsz hb
            go_simp
          | 9, ho =>
            obtain rfl := Option.some.inj ho
            have d8 : a.tmps.getD 41 undef = .pointer (some ⟨q, 3 + z * 5, none⟩) := dep 8 _ _ (by kernel_rfl) rfl rfl
            have e8 : a.tmps[41]?.getD undef = _ := (Array.getD_eq_getD_getElem? ..).symm.trans d8
            rw [if_pos (wanted_none rfl)]
            refine grow_same (v := .pointer (some ⟨q, 3 + z * 5, none⟩)) ?_ rfl
            clear old dep ho hsz hb
            go_simp
          | 10, ho =>
            obtain rfl := Option.some.inj ho
            have d9 : a.tmps.getD 42 undef = .pointer (some ⟨q, 3 + z * 5, none⟩) := dep 9 _ _ (by kernel_rfl) rfl rfl
            have e9 : a.tmps[42]?.getD undef = _ := (Array.getD_eq_getD_getElem? ..).symm.trans d9
            rw [if_pos (wanted_none rfl)]
            refine grow_same (v := .pointer (some ⟨q, 3 + z * 5 + 1, none⟩)) ?_ rfl
            clear old dep ho hsz hb
            go_simp
          | 11, ho =>
            obtain rfl := Option.some.inj ho
            have d10 : a.tmps.getD 43 undef = .pointer (some ⟨q, 3 + z * 5 + 1, none⟩) := dep 10 _ _ (by kernel_rfl) rfl rfl
            have e10 : a.tmps[43]?.getD undef = _ := (Array.getD_eq_getD_getElem? ..).symm.trans d10
            rw [if_pos (wanted_none rfl)]
            obtain ⟨hf0, hf1, hf2, hf3, hf4⟩ := (H4.out.below hb).cell hz
            rw [HN.out] at hf1
            refine grow_same (v := .int .i64 (n : Int)) ?_ rfl
            clear old dep ho hsz hb
            go_simp
          | 12, ho =>
            obtain rfl := Option.some.inj ho
            have d11 : a.tmps.getD 44 undef = .int .i64 (n : Int) := dep 11 _ _ (by kernel_rfl) rfl rfl
            have e11 : a.tmps[44]?.getD undef = _ := (Array.getD_eq_getD_getElem? ..).symm.trans d11
            rw [if_pos (wanted_none rfl)]
            refine grow_enters (f := 61) (args := #[.int .i64 (n : Int)]) ?_ ((psec_any w2 n hn6).mono (by rintro e w' ⟨rfl, rfl⟩; exact ⟨_, rfl, rfl, Below.refl _ _⟩))
            clear old dep ho hsz hb
            go_simp
          | 13, ho =>
            obtain rfl := Option.some.inj ho
            have o7 : a.tmps.getD 7 undef = _ := old 7 (by kernel_rfl)
            rw [if_pos (wanted_none rfl)]
            refine grow_same (v := .int .i64 (j : Int)) ?_ rfl
            clear old dep ho hsz hb
            go_simp
          | 14, ho =>
            obtain rfl := Option.some.inj ho
            have d12 : a.tmps.getD 45 undef = .int .i64 ((514 + 4 * n : Nat) : Int) := dep 12 _ _ (by kernel_rfl) rfl rfl
            have e12 : a.tmps[45]?.getD undef = _ := (Array.getD_eq_getD_getElem? ..).symm.trans d12
            have d13 : a.tmps.getD 46 undef = .int .i64 (j : Int) := dep 13 _ _ (by kernel_rfl) rfl rfl
            have e13 : a.tmps[46]?.getD undef = _ := (Array.getD_eq_getD_getElem? ..).symm.trans d13
            rw [if_pos (wanted_none rfl)]
            refine grow_same (v := .int .i64 ((514 + 4 * n + j : Nat) : Int)) ?_ rfl
            clear old dep ho hsz hb
            go_simp
            first | omega | (rw [IntKind.wrap_i64]; omega)
          | 15, ho =>
            obtain rfl := Option.some.inj ho
            have o6 : a.tmps.getD 6 undef = _ := old 6 (by kernel_rfl)
            rw [if_pos (wanted_none rfl)]
            refine grow_same (v := .slice BA 256 bc) ?_ rfl
            clear old dep ho hsz hb
            go_simp
          | 16, ho =>
            obtain rfl := Option.some.inj ho
            have o7 : a.tmps.getD 7 undef = _ := old 7 (by kernel_rfl)
            rw [if_pos (wanted_none rfl)]
            refine grow_same (v := .int .i64 (j : Int)) ?_ rfl
            clear old dep ho hsz hb
            go_simp
          | 17, ho =>
            obtain rfl := Option.some.inj ho
            have d16 : a.tmps.getD 49 undef = .int .i64 (j : Int) := dep 16 _ _ (by kernel_rfl) rfl rfl
            have e16 : a.tmps[49]?.getD undef = _ := (Array.getD_eq_getD_getElem? ..).symm.trans d16
            rw [if_pos (wanted_none rfl)]
            refine grow_same (v := .int .i64 ((j * 64 : Nat) : Int)) ?_ rfl
            clear old dep ho hsz hb
            go_simp
            first | omega | (rw [IntKind.wrap_i64]; omega)
          | 18, ho =>
            obtain rfl := Option.some.inj ho
            have d15 : a.tmps.getD 48 undef = .slice BA 256 bc := dep 15 _ _ (by kernel_rfl) rfl rfl
            have e15 : a.tmps[48]?.getD undef = _ := (Array.getD_eq_getD_getElem? ..).symm.trans d15
            have d17 : a.tmps.getD 50 undef = .int .i64 ((j * 64 : Nat) : Int) := dep 17 _ _ (by kernel_rfl) rfl rfl
            have e17 : a.tmps[50]?.getD undef = _ := (Array.getD_eq_getD_getElem? ..).symm.trans d17
            rw [if_pos (wanted_none rfl)]
            refine grow_same (exec_highT (j * 64) rfl d15 d17 HJ.out) rfl
          | 19, ho =>
            obtain rfl := Option.some.inj ho
            have d18 : a.tmps.getD 51 undef = .slice (hiA BA bc (j * 64)) (256 - j * 64) (bc - j * 64) := dep 18 _ _ (by kernel_rfl) rfl rfl
            have e18 : a.tmps[51]?.getD undef = _ := (Array.getD_eq_getD_getElem? ..).symm.trans d18
            rw [if_pos (wanted_none rfl)]
            refine grow_same (v := .slice (hiA BA bc (j * 64)) 64 (bc - j * 64)) (exec_low (x := .tmp 51) 64 rfl d18 HCC.out) ⟨_, _, rfl, ?_⟩
            exact Rd.low (Rd.high (KB.out.out (Out.of_below hb) (X := fun _ => True) (fun _ _ => trivial)).rd256 HJ.out) (by omega)
          | i + 20, ho => exact absurd hik (by omega)
        · intro a w2 hb hsz old dep
          have d3 : a.tmps.getD 36 undef = ptr dg := dep 3 _ _ (by kernel_rfl) rfl rfl
          have e3 : a.tmps[36]?.getD undef = _ := (Array.getD_eq_getD_getElem? ..).symm.trans d3
          have d7 : a.tmps.getD 40 undef = .int .i64 (P.r : Int) := dep 7 _ _ (by kernel_rfl) rfl rfl
          have e7 : a.tmps[40]?.getD undef = _ := (Array.getD_eq_getD_getElem? ..).symm.trans d7
          have d14 : a.tmps.getD 47 undef = .int .i64 ((514 + 4 * n + j : Nat) : Int) := dep 14 _ _ (by kernel_rfl) rfl rfl
          have e14 : a.tmps[47]?.getD undef = _ := (Array.getD_eq_getD_getElem? ..).symm.trans d14
          obtain ⟨A19, C19, d19, r19⟩ : ∃ A c, a.tmps.getD 52 undef = .slice A 64 c ∧ Rd w2 (.slice A 64 c) (u8s ((B.drop (j * 64)).take 64)) := dep 19 _ _ (by kernel_rfl) rfl rfl
          have e19 : a.tmps[52]?.getD undef = _ := (Array.getD_eq_getD_getElem? ..).symm.trans d19
          refine last_enters (f := 19) (args := #[ptr dg, .int .i64 (P.r : Int), .int .i64 ((514 + 4 * n + j : Nat) : Int), .slice A19 64 C19]) ?_ (wrote_pg (H4.out.below hb) D4.out hkj (514 + 4 * n + j) HS.out HC.out r19 hb)
          clear old dep hsz hb
          go_simp
        · intro i o hki ho
          have hin : i < 22 := (Array.getElem?_eq_some_iff.1 ho).1
          obtain rfl : i = 21 := by omega
          obtain rfl := Option.some.inj ho
          refine ⟨rfl, fun a w => ?_⟩
          rw [Array.getD_eq_getD_getElem?]
          clear hki ho hin
          go_simp
        · intro a w2 v hR hsz hdf hk fin keep
          obtain ⟨tm, df⟩ := a
          have hx := frame_of [33, 34, 35, 36, 37, 38, 39, 40, 41, 42, 43, 44, 45, 46, 47, 48, 49, 50, 51, 52, 53, 8] (by kernel_rfl) hsz keep
          dsimp only at hdf hx hk
          simp only [List.foldl_cons, List.foldl_nil] at hx
          subst hdf
          clear hsz keep
          rw [hk] at hx
          clear hk
          generalize tm.getD 33 undef = y33 at hx
          generalize tm.getD 34 undef = y34 at hx
          generalize tm.getD 35 undef = y35 at hx
          generalize tm.getD 36 undef = y36 at hx
          generalize tm.getD 37 undef = y37 at hx
          generalize tm.getD 38 undef = y38 at hx
          generalize tm.getD 39 undef = y39 at hx
          generalize tm.getD 40 undef = y40 at hx
          generalize tm.getD 41 undef = y41 at hx
          generalize tm.getD 42 undef = y42 at hx
          generalize tm.getD 43 undef = y43 at hx
          generalize tm.getD 44 undef = y44 at hx
          generalize tm.getD 45 undef = y45 at hx
          generalize tm.getD 46 undef = y46 at hx
          generalize tm.getD 47 undef = y47 at hx
          generalize tm.getD 48 undef = y48 at hx
          generalize tm.getD 49 undef = y49 at hx
          generalize tm.getD 50 undef = y50 at hx
          generalize tm.getD 51 undef = y51 at hx
          generalize tm.getD 52 undef = y52 at hx
          have kn : tm.getD 8 undef = v := fin 21 _ _ (by decide) rfl rfl
          rw [kn] at hx
          clear kn
          clear fin
          simp only [List.setIfInBounds_toArray, List.set_cons_succ, List.set_cons_zero] at hx
          subst hx
          obtain ⟨rfl, dk, kvk, hnx, hpa, ho⟩ := hR
          have HRUN := hide hrun
          have N5 := hide (N4.out.trans hnx)
          have H5 := hide hpa
          have O5 := hide (O4.out.trans (ho.less (X := X) (fun _ h => .inl h)))
          have K5 := hide (KB.out.out ho (fun k hk => .inr hk))
          clear hnx hpa ho hrun
          cases hbb : (gj.run [pageD1 n B j]).2
          · have HF : Hid ((g1.run (pageD n B ++ [.bar])) = ((gj.run [pageD1 n B j]).1, false)) := by
              have e1 : g1.run ((pageD n B).take (j + 1)) = ((gj.run [pageD1 n B j]).1, false) := by
                rw [TK.out, run_yes (g' := gj) (Prod.ext hgj HRUN.out)]
                exact Prod.ext rfl hbb
              have e2 : pageD n B ++ [.bar] = (pageD n B).take (j + 1) ++ ((pageD n B).drop (j + 1) ++ [.bar]) := by rw [← List.append_assoc, List.take_append_drop]
              rw [e2]
              exact hide (run_no e1 _)
            simp only [cd, Bool.false_eq_true, if_false]
            go_wp2
            go_ret
            unfold SaveRet saveT
            rw [HE.out, HF.out, HR0.out, hl1]
            exact ⟨_, rfl, rfl, dk, kvk, (N1.out.trans N5.out).more (by omega), H5.out.sub (fun k hk => .inl hk), O5.out⟩
          · have HF : Hid ((g1.run ((pageD n B).take (j + 1))) = ((gj.run [pageD1 n B j]).1, true)) := by
              rw [TK.out, run_yes (g' := gj) (Prod.ext hgj HRUN.out)]
              exact hide (Prod.ext rfl hbb)
            simp only [cd, if_true]
            go_wp2
            go_roundw
            case rel =>
              refine ⟨j + 1, dk, kvk, by omega, by go_num, by rw [HF.out], ?_, H5, K5, O5⟩
              rw [HF.out]
              exact hide (N5.out.more (by omega))
            case measure => simp [intOf]; omega
      · obtain rfl : j = 4 := by omega
        have HG : Hid (g1.run (pageD n B) = (gj, true)) := by
          have : (pageD n B).take 4 = pageD n B := List.take_of_length_le (by simp [pageD])
          rw [this] at hgj hrun
          exact hide (Prod.ext hgj hrun)
        clear hrun hgj
        go_upto_region 14 with fail
        refine region_last 8 66 [Say.is (.pointer (some ⟨q, 0, none⟩)), Say.is (.pointer (some ⟨q, 0, none⟩)), Say.is (.pointer (some ⟨q, 0, none⟩)), Say.is (ptr dg), Say.is (.pointer (some ⟨q, 0, none⟩)), Say.is (.pointer (some ⟨q, 0, none⟩)), Say.is (.pointer (some ⟨q, 1, none⟩)), Say.is (.int .i64 (P.r : Int))] (fun v w' => v = .int .i64 (cd (gj.run [.bar]).2) ∧ PWent wr w' (fun k => X k ∨ blkOf (.slice BA 256 bc) = some k) dg dj g l1 q P (gj.run [.bar]).1 (k1 + 4)) rfl rfl rfl (by kernel_rfl) (by kernel_rfl) (by kernel_rfl) (by kernel_rfl) (by kernel_rfl) ?_ ?_ ?_ ?_
        · intro i o hik ho a w2 hb hsz old dep
          match i, ho with
          | 0, ho =>
            obtain rfl := Option.some.inj ho
            have o0 : a.tmps.getD 0 undef = _ := old 0 (by kernel_rfl)
            rw [if_pos (wanted_none rfl)]
            refine grow_same (v := .pointer (some ⟨q, 0, none⟩)) ?_ rfl
            clear old dep ho hsz hb
            go_simp
          | 1, ho =>
            obtain rfl := Option.some.inj ho
            have d0 : a.tmps.getD 58 undef = .pointer (some ⟨q, 0, none⟩) := dep 0 _ _ (by kernel_rfl) rfl rfl
            have e0 : a.tmps[58]?.getD undef = _ := (Array.getD_eq_getD_getElem? ..).symm.trans d0
            rw [if_pos (wanted_none rfl)]
            refine grow_same (v := .pointer (some ⟨q, 0, none⟩)) ?_ rfl
            clear old dep ho hsz hb
            go_simp
          | 2, ho =>
            obtain rfl := Option.some.inj ho
            have d1 : a.tmps.getD 59 undef = .pointer (some ⟨q, 0, none⟩) := dep 1 _ _ (by kernel_rfl) rfl rfl
            have e1 : a.tmps[59]?.getD undef = _ := (Array.getD_eq_getD_getElem? ..).symm.trans d1
            rw [if_pos (wanted_none rfl)]
            refine grow_same (v := .pointer (some ⟨q, 0, none⟩)) ?_ rfl
            clear old dep ho hsz hb
            go_simp
          | 3, ho =>
            obtain rfl := Option.some.inj ho
            have d2 : a.tmps.getD 60 undef = .pointer (some ⟨q, 0, none⟩) := dep 2 _ _ (by kernel_rfl) rfl rfl
            have e2 : a.tmps[60]?.getD undef = _ := (Array.getD_eq_getD_getElem? ..).symm.trans d2
            rw [if_pos (wanted_none rfl)]
            obtain ⟨hc0, hc1, hc2, hc18⟩ := (H4.out.below hb).head
            refine grow_same (v := ptr dg) ?_ rfl
            clear old dep ho hsz hb
            go_simp
          | 4, ho =>
            obtain rfl := Option.some.inj ho
            have o0 : a.tmps.getD 0 undef = _ := old 0 (by kernel_rfl)
            rw [if_pos (wanted_none rfl)]
            refine grow_same (v := .pointer (some ⟨q, 0, none⟩)) ?_ rfl
            clear old dep ho hsz hb
            go_simp
          | 5, ho =>
            obtain rfl := Option.some.inj ho
            have d4 : a.tmps.getD 62 undef = .pointer (some ⟨q, 0, none⟩) := dep 4 _ _ (by kernel_rfl) rfl rfl
            have e4 : a.tmps[62]?.getD undef = _ := (Array.getD_eq_getD_getElem? ..).symm.trans d4
            rw [if_pos (wanted_none rfl)]
            refine grow_same (v := .pointer (some ⟨q, 0, none⟩)) ?_ rfl
            clear old dep ho hsz hb
            go_simp
          | 6, ho =>
            obtain rfl := Option.some.inj ho
            have d5 : a.tmps.getD 63 undef = .pointer (some ⟨q, 0, none⟩) := dep 5 _ _ (by kernel_rfl) rfl rfl
            have e5 : a.tmps[63]?.getD undef = _ := (Array.getD_eq_getD_getElem? ..).symm.trans d5
            rw [if_pos (wanted_none rfl)]
            refine grow_same (v := .pointer (some ⟨q, 1, none⟩)) ?_ rfl
            clear old dep ho hsz hb
            go_simp
          | 7, ho =>
            obtain rfl := Option.some.inj ho
            have d6 : a.tmps.getD 64 undef = .pointer (some ⟨q, 1, none⟩) := dep 6 _ _ (by kernel_rfl) rfl rfl
            have e6 : a.tmps[64]?.getD undef = _ := (Array.getD_eq_getD_getElem? ..).symm.trans d6
            rw [if_pos (wanted_none rfl)]
            obtain ⟨hc0, hc1, hc2, hc18⟩ := (H4.out.below hb).head
            refine grow_same (v := .int .i64 (P.r : Int)) ?_ rfl
            clear old dep ho hsz hb
            go_simp
          | i + 8, ho => exact absurd hik (by omega)
        · intro a w2 hb hsz old dep
          have d3 : a.tmps.getD 61 undef = ptr dg := dep 3 _ _ (by kernel_rfl) rfl rfl
          have e3 : a.tmps[61]?.getD undef = _ := (Array.getD_eq_getD_getElem? ..).symm.trans d3
          have d7 : a.tmps.getD 65 undef = .int .i64 (P.r : Int) := dep 7 _ _ (by kernel_rfl) rfl rfl
          have e7 : a.tmps[65]?.getD undef = _ := (Array.getD_eq_getD_getElem? ..).symm.trans d7
          refine last_enters (f := 60) (args := #[ptr dg, .int .i64 (P.r : Int)]) ?_ (barred_pg (H4.out.below hb) D4.out hb)
          clear old dep hsz hb
          go_simp
        · intro i o hki ho
          have hin : i < 10 := (Array.getElem?_eq_some_iff.1 ho).1
          obtain rfl : i = 9 := by omega
          obtain rfl := Option.some.inj ho
          refine ⟨rfl, fun a w => ?_⟩
          rw [Array.getD_eq_getD_getElem?]
          clear hki ho hin
          go_simp
        · intro a w2 v hR hsz hdf hk fin keep
          obtain ⟨tm, df⟩ := a
          have hx := frame_of [58, 59, 60, 61, 62, 63, 64, 65, 66, 9] (by kernel_rfl) hsz keep
          dsimp only at hdf hx hk
          simp only [List.foldl_cons, List.foldl_nil] at hx
          subst hdf
          clear hsz keep
          rw [hk] at hx
          clear hk
          generalize tm.getD 58 undef = y58 at hx
          generalize tm.getD 59 undef = y59 at hx
          generalize tm.getD 60 undef = y60 at hx
          generalize tm.getD 61 undef = y61 at hx
          generalize tm.getD 62 undef = y62 at hx
          generalize tm.getD 63 undef = y63 at hx
          generalize tm.getD 64 undef = y64 at hx
          generalize tm.getD 65 undef = y65 at hx
          have kn : tm.getD 9 undef = v := fin 9 _ _ (by decide) rfl rfl
          rw [kn] at hx
          clear kn
          clear fin
          simp only [List.setIfInBounds_toArray, List.set_cons_succ, List.set_cons_zero] at hx
          subst hx
          obtain ⟨rfl, dk, kvk, hnx, hpa, ho⟩ := hR
          have N5 := hide ((N1.out.trans N4.out).trans hnx)
          have O5 := hide (O4.out.trans (ho.less (X := X) (fun _ h => .inl h)))
          have H5 := hide (hpa.sub (Y := X) (fun k hk => .inl hk))
          clear hnx hpa ho
          have HF := hide (run_yes HG.out [.bar])
          cases hbb : (gj.run [.bar]).2
          · simp only [cd, Bool.false_eq_true, if_false]
            go_wp2
            go_ret
            unfold SaveRet saveT
            rw [HE.out, HF.out, HR0.out, hl1, hbb]
            exact ⟨_, rfl, rfl, dk, kvk, N5.out.more (by omega), H5.out, O5.out⟩
          · simp only [cd, if_true]
            obtain ⟨f0, f1, f2, f3, f4⟩ := H5.out.cell hz
            have z3 := H5.out.frozen (3 + z * 5 + 3)
            have z4 := H5.out.frozen (3 + z * 5 + 4)
            go_wp2
            go_ret
            unfold SaveRet saveT
            rw [HE.out, HF.out, HR0.out, hl1, hbb]
            have H6 := H5.out.cellF hz (c := 3) (by omega) (x := ⟨(P.f z).pb, (P.f z).num, (P.f z).req, false, (P.f z).since, (P.f z).pg⟩) (v := .bool false) rfl rfl rfl
            have H7 := H6.cellF hz (c := 4) (by omega) (x := (P.f z).saved) (v := .int .u64 0) (by rw [P.set_same]; rfl) (by rw [P.set_same]; rfl) (by rw [P.set_same]; rfl)
            rw [P.set_set] at H7
            exact ⟨_, rfl, rfl, dk, kvk, N5.out.more (by omega), H7, (O5.out.trans (H5.out.outQ (kept_cell _ _ _ _))).trans (H6.outQ (kept_cell _ _ _ _))⟩
end
end Go.Proofs.Ytkdcnddagebjpaa
