/-
  Contract of package pool: obtain.
-/
import Derived.Test.YtkdcnddagebjpaaPo4
namespace Go.Proofs.Ytkdcnddagebjpaa
open Go.RowKit
set_option maxRecDepth 20000
set_option linter.unusedSimpArgs false
set_option linter.unusedVariables false

section
variable {w w' : World} {X Y : Nat → Prop} {dg : Nat} {d : Ds} {g : Nat} {l l1 : Ln} {kv : Value} {q : Nat} {P : Po} {gr : Rg} {k : Nat}
theorem Po.ext_ {P P' : Po} (h1 : P.r = P'.r) (h2 : ∀ i, P.f i = P'.f i) (h3 : P.hand = P'.hand) : P = P' := by
  obtain ⟨r, f, h⟩ := P
  obtain ⟨r', f', h'⟩ := P'
  dsimp only at h1 h2 h3
  obtain rfl : f = f' := funext h2
  subst h1 h3
  rfl
theorem Po.set_id (P : Po) (i : Nat) : P.set i (P.f i) = P := by
  refine Po.ext_ (P := P.set i (P.f i)) rfl (fun j => ?_) rfl
  by_cases e : j = i
  · subst e; exact P.set_same _ _
  · exact P.set_other _ e
def Fm.unreq (x : Fm) : Fm := ⟨x.pb, x.num, false, x.dirty, x.since, x.pg⟩
/-- The first m frames ahead of the hand are no longer requested. -/
def Po.unreq (P : Po) : Nat → Po
  | 0 => P
  | m + 1 => (P.unreq m).set (P.ahd m) ((P.unreq m).f (P.ahd m)).unreq
theorem Po.unreq_hand (P : Po) : ∀ m, (P.unreq m).hand = P.hand
  | 0 => rfl
  | m + 1 => P.unreq_hand m
theorem Po.unreq_r (P : Po) : ∀ m, (P.unreq m).r = P.r
  | 0 => rfl
  | m + 1 => P.unreq_r m
theorem Po.ahd_like {P P' : Po} (h : P.hand = P'.hand) (i : Nat) : P.ahd i = P'.ahd i := by unfold Po.ahd; rw [h]
/-- But for the request, a frame is as it was. -/
theorem Po.unreq_f (P : Po) (i : Nat) : ∀ m, ∃ b, (P.unreq m).f i = ⟨(P.f i).pb, (P.f i).num, b, (P.f i).dirty, (P.f i).since, (P.f i).pg⟩
  | 0 => ⟨(P.f i).req, rfl⟩
  | m + 1 => by
    obtain ⟨b, h⟩ := P.unreq_f i m
    by_cases e : i = P.ahd m
    · refine ⟨false, ?_⟩
      show ((P.unreq m).set (P.ahd m) ((P.unreq m).f (P.ahd m)).unreq).f i = _
      rw [← e, Po.set_same, h]
      rfl
    · refine ⟨b, ?_⟩
      show ((P.unreq m).set (P.ahd m) ((P.unreq m).f (P.ahd m)).unreq).f i = _
      rw [Po.set_other _ _ e, h]
theorem Po.unreq_set (P : Po) (z : Nat) (x : Fm) {j : Nat} (hj : j ≠ z) : ∀ m, ((P.set z x).unreq m).f j = (P.unreq m).f j
  | 0 => P.set_other x hj
  | m + 1 => by
    show (((P.set z x).unreq m).set (P.ahd m) (((P.set z x).unreq m).f (P.ahd m)).unreq).f j = ((P.unreq m).set (P.ahd m) ((P.unreq m).f (P.ahd m)).unreq).f j
    by_cases e : j = P.ahd m
    · rw [← e, Po.set_same, Po.set_same, P.unreq_set z x hj m]
    · rw [Po.set_other _ _ e, Po.set_other _ _ e, P.unreq_set z x hj m]
theorem Po.unreq_over (P : Po) (z : Nat) (x : Fm) (m : Nat) : ((P.set z x).unreq m).set z fZ = (P.unreq m).set z fZ := by
  refine Po.ext_ (P := ((P.set z x).unreq m).set z fZ) (P' := (P.unreq m).set z fZ) ?_ (fun j => ?_) ?_
  · show ((P.set z x).unreq m).r = (P.unreq m).r
    rw [Po.unreq_r, Po.unreq_r]
    rfl
  · by_cases e : j = z
    · subst e
      rw [Po.set_same, Po.set_same]
    · rw [Po.set_other _ _ e, Po.set_other _ _ e, P.unreq_set z x e]
  · show ((P.set z x).unreq m).hand = (P.unreq m).hand
    rw [Po.unreq_hand, Po.unreq_hand]
    rfl
theorem PAt.zeroed (h : PAt w X dg d g l kv q P) {z : Nat} (hz : z < 3) :
    PAt (((((w.setCell ⟨q, 3 + z * 5, none⟩ (.pointer none)).setCell ⟨q, 3 + z * 5 + 1, none⟩ (.int .i64 0)).setCell ⟨q, 3 + z * 5 + 2, none⟩ (.bool false)).setCell ⟨q, 3 + z * 5 + 3, none⟩ (.bool false)).setCell ⟨q, 3 + z * 5 + 4, none⟩ (.int .u64 0)) X dg d g l kv q (P.set z fZ) ∧
    Kept (fun k => k = q) w (((((w.setCell ⟨q, 3 + z * 5, none⟩ (.pointer none)).setCell ⟨q, 3 + z * 5 + 1, none⟩ (.int .i64 0)).setCell ⟨q, 3 + z * 5 + 2, none⟩ (.bool false)).setCell ⟨q, 3 + z * 5 + 3, none⟩ (.bool false)).setCell ⟨q, 3 + z * 5 + 4, none⟩ (.int .u64 0)) := by
  have hk : Kept (fun k => k = q) w (((((w.setCell ⟨q, 3 + z * 5, none⟩ (.pointer none)).setCell ⟨q, 3 + z * 5 + 1, none⟩ (.int .i64 0)).setCell ⟨q, 3 + z * 5 + 2, none⟩ (.bool false)).setCell ⟨q, 3 + z * 5 + 3, none⟩ (.bool false)).setCell ⟨q, 3 + z * 5 + 4, none⟩ (.int .u64 0)) :=
    ((((kept_cell w q _ _).trans_same (kept_cell _ q _ _)).trans_same (kept_cell _ q _ _)).trans_same (kept_cell _ q _ _)).trans_same (kept_cell _ q _ _)
  refine ⟨h.dropped hk rfl ?_, hk⟩
  have hb := ((((h.blk.set_ (3 + z * 5 + 0) (.pointer none)).set_ (3 + z * 5 + 1) (.int .i64 0)).set_ (3 + z * 5 + 2) (.bool false)).set_ (3 + z * 5 + 3) (.bool false)).set_ (3 + z * 5 + 4) (.int .u64 0)
  rw [P.put_cell dg g hz (c := 0) (v := .pointer none) (by omega) (x := ⟨none, (P.f z).num, (P.f z).req, (P.f z).dirty, (P.f z).since, pZ⟩) rfl,
    Po.put_cell _ dg g hz (c := 1) (v := .int .i64 0) (by omega) (x := ⟨none, 0, (P.f z).req, (P.f z).dirty, (P.f z).since, pZ⟩) (by rw [Po.set_same]; rfl),
    Po.put_cell _ dg g hz (c := 2) (v := .bool false) (by omega) (x := ⟨none, 0, false, (P.f z).dirty, (P.f z).since, pZ⟩) (by rw [Po.set_same]; rfl),
    Po.put_cell _ dg g hz (c := 3) (v := .bool false) (by omega) (x := ⟨none, 0, false, false, (P.f z).since, pZ⟩) (by rw [Po.set_same]; rfl),
    Po.put_cell _ dg g hz (c := 4) (v := .int .u64 0) (by omega) (x := fZ) (by rw [Po.set_same]; rfl)] at hb
  simp only [Po.set_set] at hb
  exact hb
/-- The pool, its victim gone. -/
def Po.gone (P : Po) : Po := ((P.unreq P.pas).set (P.ahd P.pas) fZ).setHand ((P.hand + P.pas + 1) % 3)
def Fm.page (x : Fm) (n : Nat) (p : Pg) : Prop := x.num = n ∧ x.pg = p
/-- What save does of a frame, whether it is dirty or not. -/
def frT (x : Fm) (l : Ln) : List Do := if x.dirty = true then saveT l x.num x.pg.encL else []
def frL (x : Fm) (l : Ln) (gr : Rg) : Ln := if x.dirty = true then flL l (gr.run (flD l)).2 else l
/-- What a frame with a page is within. -/
structure Fm.Fit (x : Fm) : Prop where
  num : x.num < 6
  sized : x.pg.sized
  ten : x.pg.ten < 65536
  pnum : x.pg.num < 65536
  clean : x.dirty = false → x.since = 0
def AnyRet (w : World) (X : Nat → Prop) (dg : Nat) (d : Ds) (g : Nat) (l : Ln) (q : Nat) (P : Po) (z : Nat) (gr : Rg) (k : Nat) (e : Ending) (w' : World) : Prop :=
  ∃ v, e = .returned v ∧ v = .int .i64 (cd (gr.run (frT (P.f z) l)).2) ∧ ∃ d' kv', Next d P.r (gr.run (frT (P.f z) l)).1 k d' ∧ PAt w' X dg d' g (frL (P.f z) l gr) kv' q (cond (gr.run (frT (P.f z) l)).2 (P.set z (P.f z).saved) P) ∧ Out X w w'
theorem save_clean (h : PAt w X dg d g l kv q P) {z : Nat} (hz : z < 3) (hdy : (P.f z).dirty = false) :
    Calls Try.prog 38 #[.pointer (some ⟨q, 0, none⟩), .pointer (some ⟨q, 3 + z * 5, none⟩)] w fun e w' => e = .returned (.int .i64 0) ∧ w = w' := by
  obtain ⟨f0, f1, f2, f3, f4⟩ := h.cell hz
  rw [hdy] at f3
  clear h hdy
  go_enter Try.func38, Try.ntmps38
  go_wp2
  go_ret
  exact ⟨rfl, rfl⟩
theorem saved_clean {x : Fm} (hdy : x.dirty = false) (hs : x.since = 0) : x.saved = x := by
  cases x
  dsimp only at hdy hs
  subst hdy hs
  rfl
theorem save_any (h : PAt w X dg d g l kv q P) (hf : l.Fit) (hlr : l.r = P.r) (hd : DIs d P.r gr k) (hk : k ≤ 700000) (hsz : 538 ≤ d.size) {z b : Nat} (hz : z < 3) (hb : (P.f z).pb = some b) (hx : (P.f z).Fit) :
    Calls Try.prog 38 #[.pointer (some ⟨q, 0, none⟩), .pointer (some ⟨q, 3 + z * 5, none⟩)] w (AnyRet w X dg d g l q P z gr (k + 310)) := by
  cases hdy : (P.f z).dirty
  · refine (save_clean h hz hdy).mono ?_
    rintro e w' ⟨rfl, rfl⟩
    unfold AnyRet frT frL
    rw [hdy]
    simp only [Bool.false_eq_true, if_false, run_nil, cond]
    rw [saved_clean hdy (hx.clean hdy), P.set_id]
    exact ⟨_, rfl, rfl, d, kv, hd.next.more (by omega), h, Out.refl _ _⟩
  · refine (save_po h hf hlr hd hk hsz hz hb rfl hx.num hdy rfl hx.sized hx.ten hx.pnum).mono ?_
    intro e w' hr
    unfold AnyRet frT frL
    rw [hdy]
    simp only [if_true]
    exact hr
theorem obtain_free (h : PAt w X dg d g l kv q P) {z : Nat} (hz : z < 3) (hlow : ∀ j, j < z → (P.f j).pb ≠ none) (hfree : (P.f z).pb = none) :
    Calls Try.prog 50 #[.pointer (some ⟨q, 0, none⟩)] w fun e w' => e = .returned (.tuple #[.pointer (some ⟨q, 3 + z * 5, none⟩), .int .i64 0]) ∧ w = w' := by
  have hc : ∀ k, k < 3 → w.cell? ⟨q, 3 + k * 5, none⟩ = some (pv (P.f k).pb) := fun k hk => (h.cell hk).1
  have HF := hide hfree
  have HL := hide hlow
  clear h hlow hfree
  go_enter Try.func50, Try.ntmps50
  go_wp2
  go_loopg [10] 3 (fun m i wr => ∃ k : Nat, k + m = 3 ∧ i = .int .i64 k ∧ k ≤ z ∧ wr = w)
  case atStart => exact ⟨0, by omega, rfl, by omega, rfl⟩
  case round =>
    obtain ⟨k, hk, rfl, hkz, rfl⟩ := hrel
    cases gk with
    | zero => exact absurd hk (by omega)
    | succ m =>
      have hlt : k < 3 := by omega
      have c0 := hc k hlt
      clear hc
      have hlt' : (k : Int) < 3 := by omega
      by_cases he : k = z
      · subst he
        rw [HF.out] at c0
        unfold pv at c0
        go_wp2
        go_ret2
        exact ⟨rfl, rfl⟩
      · have hne := HL.out k (by omega)
        cases hpb : (P.f k).pb with
        | none => exact absurd hpb hne
        | some b =>
          rw [hpb] at c0
          unfold pv at c0
          clear hpb hne
          go_wp2
          go_roundg m
          case rel => exact ⟨k + 1, by omega, by go_num, by omega, rfl⟩
          case measure => omega
/-- What obtain answers where each frame has a page. -/
def FullRet (w : World) (X : Nat → Prop) (dg : Nat) (d : Ds) (g : Nat) (l : Ln) (q : Nat) (P : Po) (gr : Rg) (k : Nat) (e : Ending) (w' : World) : Prop :=
  ∃ v, e = .returned (.tuple #[v, .int .i64 (cd (gr.run (frT (P.f (P.ahd P.pas)) l)).2)]) ∧ v = cond (gr.run (frT (P.f (P.ahd P.pas)) l)).2 (.pointer (some ⟨q, 3 + P.ahd P.pas * 5, none⟩)) (.pointer none) ∧
    ∃ d' kv', Next d P.r (gr.run (frT (P.f (P.ahd P.pas)) l)).1 k d' ∧ PAt w' X dg d' g (frL (P.f (P.ahd P.pas)) l gr) kv' q (cond (gr.run (frT (P.f (P.ahd P.pas)) l)).2 P.gone P) ∧ Out X w w'
set_option maxHeartbeats 8000000 in
theorem obtain_full (h : PAt w X dg d g l kv q P) (hf : l.Fit) (hlr : l.r = P.r) (hd : DIs d P.r gr k) (hk : k ≤ 700000) (hsz : 538 ≤ d.size) (hh : P.hand < 3) (hall : ∀ j, j < 3 → (P.f j).pb ≠ none ∧ (P.f j).Fit) :
    Calls Try.prog 50 #[.pointer (some ⟨q, 0, none⟩)] w (FullRet w X dg d g l q P gr (k + 310)) := by
  have hc : ∀ k, k < 3 → w.cell? ⟨q, 3 + k * 5, none⟩ = some (pv (P.f k).pb) := fun k hk => (h.cell hk).1
  have H0 := hide h
  have HF := hide hf
  have HD := hide hd
  have HL := hide hall
  have hpass := passed_po h hh
  clear h hf hd hall
  go_enter Try.func50, Try.ntmps50
  go_wp2
  go_loopg [10] 3 (fun m i wr => ∃ k : Nat, k + m = 3 ∧ i = .int .i64 k ∧ w = wr)
  case atStart => exact ⟨0, by omega, rfl, rfl⟩
  case round =>
    obtain ⟨j, hj, rfl, rfl⟩ := hrel
    cases gk with
    | zero =>
      obtain rfl : j = 3 := by omega
      clear hc
      have hpl := P.pas_le
      generalize hpas : P.pas = m at *
      have HPAS := hide hpas
      have hzlt := P.ahd_lt m
      obtain ⟨zz, hzz⟩ : ∃ zz, P.ahd m = zz := ⟨_, rfl⟩
      rw [hzz] at hzlt
      have HZZ := hide hzz
      obtain ⟨hne, hfit⟩ := HL.out zz hzlt
      obtain ⟨pb, hpb⟩ := Option.ne_none_iff_exists'.1 hne
      have HPB := hide hpb
      have HFX := hide hfit
      clear hpas hzz hne hfit hpb
      rcases hr0 : gr.run (frT (P.f zz) l) with ⟨g1, b1⟩
      have HR0 := hide hr0
      clear hr0
      have hm4 : (m : Int) ≤ 3 := by omega
      cases b1
      · go_wp2_with (first
          | (go_at_call 75; refine hpass.mono ?_; rintro e w1 ⟨rfl, hb1⟩; have B1 := hide hb1; have hah := ahead_po (H0.out.below hb1) hh m (by omega); rw [HZZ.out] at hah; clear hb1 hpass)
          | (go_at_call 76; refine hah.mono ?_; rintro e w2 ⟨rfl, hb2⟩; have B2 := hide (B1.out.trans (hb2.mono B1.out.size)); have hsv := save_any (H0.out.below B2.out) HF.out hlr HD.out hk hsz hzlt HPB.out HFX.out; clear hb2 hah)
          | (go_at_call 38; refine hsv.mono ?_; rintro e w3 ⟨v, rfl, hv, d3, kv3, hnx, hpa, ho⟩; rw [HR0.out] at hv hnx hpa; simp only [cd, Bool.false_eq_true, if_false] at hv; subst hv; have N3 := hide hnx; have H3 := hide hpa; have O3 := hide ((Out.of_below (X := X) B2.out).trans ho); clear hnx hpa ho hsv))
        go_ret2
        unfold FullRet
        rw [HPAS.out, HZZ.out, HR0.out]
        exact ⟨_, rfl, rfl, d3, kv3, N3.out, H3.out, O3.out⟩
      · go_wp2_with (first
          | (go_at_call 75; refine hpass.mono ?_; rintro e w1 ⟨rfl, hb1⟩; have B1 := hide hb1; have hah := ahead_po (H0.out.below hb1) hh m (by omega); rw [HZZ.out] at hah; clear hb1 hpass)
          | (go_at_call 76; refine hah.mono ?_; rintro e w2 ⟨rfl, hb2⟩; have B2 := hide (B1.out.trans (hb2.mono B1.out.size)); have hsv := save_any (H0.out.below B2.out) HF.out hlr HD.out hk hsz hzlt HPB.out HFX.out; clear hb2 hah)
          | (go_at_call 38; refine hsv.mono ?_; rintro e w3 ⟨v, rfl, hv, d3, kv3, hnx, hpa, ho⟩; rw [HR0.out] at hv hnx hpa; simp only [cd, if_true] at hv; subst hv; have N3 := hide hnx; have H3 := hide hpa; have O3 := hide ((Out.of_below (X := X) B2.out).trans ho); clear hnx hpa ho hsv))
        generalize hP1 : P.set zz (P.f zz).saved = P1 at *
        go_loopw [37] (fun u wr => ∃ (j : Nat), j ≤ m ∧ u = .int .i64 j ∧ Hid (PAt wr X dg d3 g (frL (P.f zz) l gr) kv3 q (P1.unreq j)) ∧ Hid (Out X w wr)) (fun u _ => m - (intOf u).toNat)
        case atStart => exact ⟨0, by omega, rfl, H3, O3⟩
        case round =>
          obtain ⟨j, hj, rfl, H4, O4⟩ := hrel
          have hhd : (P1.unreq j).hand = P.hand := by rw [Po.unreq_hand, ← hP1]; rfl
          have hahd : ∀ i, (P1.unreq j).ahd i = P.ahd i := fun i => Po.ahd_like hhd i
          by_cases hlt : j < m
          · have hlt' : (j : Int) < (m : Int) := by omega
            have hah := ahead_po H4.out (by rw [hhd]; exact hh) j (by omega)
            have hylt := (P1.unreq j).ahd_lt j
            obtain ⟨y, hy⟩ : ∃ y, (P1.unreq j).ahd j = y := ⟨_, rfl⟩
            rw [hy] at hah hylt
            have HY := hide ((hahd j).symm.trans hy)
            have HP1 := hide hP1
            clear hhd hahd hP1 hy
            go_wp2_with (go_at_call 76; refine hah.mono ?_; rintro e w5 ⟨rfl, hb5⟩; have H5 := hide (H4.out.below hb5); have O5 := hide (O4.out.trans (Out.of_below hb5)); obtain ⟨f0, f1, f2, f3, f4⟩ := H5.out.cell hylt; have fz := H5.out.frozen (3 + y * 5 + 2); clear f0 f1 f3 f4 hb5 hah)
            go_roundw
            case rel =>
              refine ⟨j + 1, by omega, by go_num, ?_, hide (O5.out.trans (H5.out.outQ (kept_cell _ _ _ _)))⟩
              have H6 := H5.out.cellF hylt (c := 2) (by omega) (x := ((P1.unreq j).f y).unreq) (v := .bool false) rfl rfl rfl
              have e : P1.unreq (j + 1) = (P1.unreq j).set y ((P1.unreq j).f y).unreq := by
                show (P1.unreq j).set (P1.ahd j) ((P1.unreq j).f (P1.ahd j)).unreq = _
                rw [Po.ahd_like (P' := P) (by rw [← HP1.out]; rfl), HY.out]
              rw [e]
              exact hide H6
            case measure => simp [intOf]; omega
          · obtain rfl : j = m := by omega
            have H5 := H4
            obtain ⟨f0, f1, f2, f3, f4⟩ := H4.out.cell hzlt
            obtain ⟨c0, c1, c2, c18⟩ := H4.out.head
            rw [hhd] at c18
            have fz := H4.out.frozen
            have hmod : ((P.hand : Int) + (j : Int) + 1).tmod 3 = (((P.hand + j + 1) % 3 : Nat) : Int) := by
              rw [Int.tmod_eq_emod_of_nonneg (by omega)]
              omega
            have h3 : (P.hand : Int) < 3 := by omega
            clear c0 c1 c2
            go_upto_region 18 with fail
            go_upto_region 19 with fail
            obtain ⟨H6, K6⟩ := H4.out.zeroed hzlt
            have O6 := hide (O4.out.trans (H4.out.outQ K6))
            have H6 := hide H6
            clear K6 f0 f1 f2 f3 f4 c18 fz H5
            generalize (((((wr.setCell ⟨q, 3 + zz * 5, none⟩ (.pointer none)).setCell ⟨q, 3 + zz * 5 + 1, none⟩ (.int .i64 0)).setCell ⟨q, 3 + zz * 5 + 2, none⟩ (.bool false)).setCell ⟨q, 3 + zz * 5 + 3, none⟩ (.bool false)).setCell ⟨q, 3 + zz * 5 + 4, none⟩ (.int .u64 0)) = W6 at *
            have c18 := H6.out.head.2.2.2
            rw [show ((P1.unreq j).set zz fZ).hand = P.hand from hhd] at c18
            have z18 := H6.out.frozen 18
            have HP1 := hide hP1
            clear hP1 hahd hhd
            go_wp2
            go_ret2
            unfold FullRet
            rw [HPAS.out, HZZ.out, HR0.out]
            have H7 := H6.out.setHand ((P.hand + j + 1) % 3)
            have e : ((P1.unreq j).set zz fZ).setHand ((P.hand + j + 1) % 3) = P.gone := by
              unfold Po.gone
              rw [HPAS.out, HZZ.out, ← HP1.out, Po.unreq_over]
            rw [e] at H7
            exact ⟨_, rfl, rfl, d3, kv3, N3.out, H7, O6.out.trans (H6.out.outQ (kept_cell _ _ _ _))⟩
    | succ m =>
      have hlt : j < 3 := by omega
      have c0 := hc j hlt
      clear hc
      have hlt' : (j : Int) < 3 := by omega
      have hne := (HL.out j hlt).1
      cases hpb : (P.f j).pb with
      | none => exact absurd hpb hne
      | some b =>
        rw [hpb] at c0
        unfold pv at c0
        clear hpb hne
        go_wp2
        go_roundg m
        case rel => exact ⟨j + 1, by omega, by go_num, rfl⟩
        case measure => omega
end
end Go.Proofs.Ytkdcnddagebjpaa
