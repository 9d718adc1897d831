/-
  The walk of DiskRuns: its pieces, the checks.
-/
import Derived.Test.YthlclhfepnmaeaaTie
import Derived.Test.YthlclhfepnmaeaaPiece
import Derived.Test.YthlclhfepnmaeaaRegs
namespace Go.Proofs.Ythlclhfepnmaeaa
open Go.RowKit
set_option linter.unusedSimpArgs false
set_option linter.unusedVariables false

def MX (B gm : Nat) (vs : Nat → Value) (k : Nat) : Prop := k < B ∨ MB gm vs k
/-- The disk in memory, the model in memory, and that they are one. -/
structure St (w0 w : World) (gm d n k : Nat) (D : Ds) (PC : Array Value) (dat : Nat → Nat → List UInt8) (wt : Nat → List CallD) (lf : Nat → Int) (vs : Nat → Value) : Prop where
  tie : Tie w0 D dat wt lf n k
  md : Md w w0.heap.size gm PC dat wt lf vs
  many : Many w (MX w0.heap.size gm vs) [(d, D)]
  le : Below w0.heap.size w0 w
section
variable {w0 w w' : World} {gm d n k : Nat} {D : Ds} {PC : Array Value} {dat : Nat → Nat → List UInt8} {wt : Nat → List CallD} {lf : Nat → Int} {vs : Nat → Value}
theorem St.below (h : St w0 w gm d n k D PC dat wt lf vs) (hb : Below w.heap.size w w') : St w0 w' gm d n k D PC dat wt lf vs := ⟨h.tie, h.md.below hb, h.many.below hb, h.le.trans (hb.mono h.le.size)⟩
theorem rn_waits_eq {D : Ds} {r : Int} {rg : Rg} {d : Nat → List UInt8} {cs : List CallD} {lf : Int} (hat : D.at? r = some rg) (h : Is rg d cs lf) : D.waits r = cs.length := by
  unfold Ds.waits
  rw [hat]
  show rg.ws.length = _
  rw [h.ws, wsof_length]
theorem rn_dn_eq {D : Ds} {r : Int} {rg : Rg} {d : Nat → List UInt8} {cs : List CallD} {lf : Int} (hat : D.at? r = some rg) (h : Is rg d cs lf) : D.dn r = decide (lf = 0) := by
  unfold Ds.dn
  rw [hat]
  exact h.down
theorem rn_sec {D : Ds} {j q : Nat} {rg : Rg} {d : Nat → List UInt8} {cs : List CallD} {lf : Int} (hs : Shape D 3 8) (hat : D.at? (j : Int) = some rg) (h : Is rg d cs lf) (hq : q < 8) : sec D (j : Int) (q : Int) = pad (rdl (d q) cs (q : Int)) := by
  unfold sec
  have h8 := hs.2
  rw [rd_some hat (by omega) (by omega), Int.toNat_natCast, h.secs hq]
  rfl
theorem rn_read2 (h : St w0 w gm d n k D PC dat wt lf vs) {j q : Nat} {Z : Sec} (hj : j < 3) (hq : q < 8) (hz : pad (rdl (dat j q) (wt j) (q : Int)) = Z) :
    Calls Try.prog 11 #[ptr d, .int .i64 (j : Int), .int .i64 (q : Int)] w fun e w' => e = .returned (.tuple #[.slice (some ⟨w.heap.size, 0, none⟩) 64 64, .int .i64 0]) ∧ Z.length = 64 ∧ Blk w' w.heap.size 5 (blk8 Z) ∧ St w0 w' gm d n k D PC dat wt lf vs := by
  obtain ⟨rg, hat, his⟩ := h.tie.is j hj
  have hsec := (rn_sec h.tie.shape hat his hq).trans hz
  refine (m_read 0 h.many rfl h.tie.shape (by omega) (by omega) (by omega) (by omega)).mono ?_
  rintro e w' ⟨rfl, h1, h2, _, h4⟩
  rw [hsec] at h1 h2
  exact ⟨rfl, h1, h2, h.below h4⟩
theorem mdl_read (h : St w0 w gm d n k D PC dat wt lf vs) {w2 : World} (hb : Below w.heap.size w w2) {j q : Nat} {Z : Sec} (hk : k ≤ 200) (hj : j < 3) (hq : q < 8) (hz : pad (rdl (dat j q) (wt j) (q : Int)) = Z) :
    Calls Try.prog 12 #[.pointer (some ⟨gm, 0, none⟩), .int .i64 (j : Int), .int .i64 (q : Int)] w2 fun e w' => ∃ v, e = .returned v ∧ (Say.is (.string ⟨Z.toArray⟩)).p w' v ∧ Below w2.heap.size w2 w' := by
  obtain ⟨rg, hat, his⟩ := h.tie.is j hj
  have hbw2 := h.le.trans (hb.mono h.le.size)
  have hc := (h.md.below hb).read hj hq (fun x hx => (h.tie.fit j hj x hx).below hbw2) hbw2.size (fun x hx => (his.okc x hx).2.2) (his.okd q hq) (Nat.le_trans (h.tie.len j hj) hk)
  rw [hz] at hc
  exact hc.mono fun _ _ ⟨h1, h2⟩ => ⟨_, h1, rfl, h2⟩
theorem rn_waits_g (h : St w0 w gm d n k D PC dat wt lf vs) {w2 : World} (hb : Below w.heap.size w w2) {j m : Nat} (hz : D.waits (j : Int) = m) :
    Calls Try.prog 13 #[ptr d, .int .i64 (j : Int)] w2 fun e w' => ∃ v, e = .returned v ∧ (Say.is (.int .i64 (m : Int))).p w' v ∧ Below w2.heap.size w2 w' := by
  refine (waits_many (i := 0) (h.below hb).many rfl (j : Int)).mono ?_
  rintro e w' ⟨rfl, rfl⟩
  exact ⟨_, rfl, by rw [hz]; rfl, Below.refl _ _⟩
theorem rn_down_g (h : St w0 w gm d n k D PC dat wt lf vs) {w2 : World} (hb : Below w.heap.size w w2) {j : Nat} {b : Bool} (hz : D.dn (j : Int) = b) :
    Calls Try.prog 14 #[ptr d, .int .i64 (j : Int)] w2 fun e w' => ∃ v, e = .returned v ∧ (Say.is (.bool b)).p w' v ∧ Below w2.heap.size w2 w' := by
  refine (dn_many (i := 0) (h.below hb).many rfl (j : Int)).mono ?_
  rintro e w' ⟨rfl, rfl⟩
  exact ⟨_, rfl, by rw [hz]; rfl, Below.refl _ _⟩
end

def SK (t : Nat) : Bool := t == 17 || t == 18 || t == 19 || (decide (240 ≤ t) && decide (t ≤ 257))
set_option maxHeartbeats 1000000 in
theorem runs_k {w0 w : World} {gm d n k : Nat} {D : Ds} {PC : Array Value} {dat : Nat → Nat → List UInt8} {wt : Nat → List CallD} {lf : Nat → Int} {vs : Nat → Value} {j : Nat} (hS : St w0 w gm d n k D PC dat wt lf vs) (hk : k ≤ 200) (hj : j < 3)
    {tm : Array Value} (hs : tm.size = 264) (f3 : tm[3]? = some (ptr d)) (f4 : tm[4]? = some (ptr gm)) (f16 : tm[16]? = some (.int .i64 (j : Int))) (f240 : tm[240]? = some (.int .i64 0)) {Q : Exit → Act → World → Prop}
    (hK : ∀ tm' w', Keeps SK tm tm' → St w0 w' gm d n k D PC dat wt lf vs → Q (.exit 9) ⟨tm', []⟩ w') :
    Code.wp Try.prog (subC (Try.f3.body.getD .skip) [1,1,1,1,1,1,0,1,0,0,1,1,0,0,1,1,1,1,1,1,0,0,1,1,0,0,1,1,1,0]) Q ⟨tm, []⟩ w := by
  conv => arg 2; whnf
  refine wp_loop (fun a w' => ∃ (tm' : Array Value) (q : Nat), a = ⟨tm', []⟩ ∧ q ≤ 8 ∧ Keeps SK tm tm' ∧ tm'[240]? = some (.int .i64 (q : Int)) ∧ St w0 w' gm d n k D PC dat wt lf vs) (fun a _ => 8 - (intOf (a.tmps.getD 240 undef)).toNat) ⟨_, 0, rfl, by omega, Keeps.refl _ _, f240, hS⟩ ?_
  rintro a w' ⟨tm1, q, rfl, hq, hkp, fq, hS⟩
  have hs1 : tm1.size = 264 := hkp.1.trans hs
  have k3 := slot_at (hkp.get rfl f3) (by omega)
  have k4 := slot_at (hkp.get rfl f4) (by omega)
  have k16 := slot_at (hkp.get rfl f16) (by omega)
  have kq := slot_at fq (by omega)
  have hmu : intOf (tm1.getD 240 undef) = (q : Int) := by rw [slot_getD fq]; rfl
  clear f3 f4 f16 f240 hs
  by_cases hq8 : q < 8
  · have hq0 : (0 : Int) ≤ (q : Int) := by omega
    have hq1 : (q : Int) < 8 := by omega
    obtain ⟨Z, hZ⟩ : ∃ Z, pad (rdl (dat j q) (wt j) (q : Int)) = Z := ⟨_, rfl⟩
    have HZ := hide hZ
    clear hZ
    go_wp2
    refine wp_cond_true (by simp [Act.eval, hs1]) ?_
    go_wp2_with (go_at_call 11; refine (rn_read2 hS hj hq8 HZ.out).mono ?_; rintro e w8 ⟨rfl, hp, hx, hS8⟩; have HP8 := hide hp; have HX8 := hide hx; clear hp hx)
    refine region_grows_n 264 (by simp [hs1, k3, k4, k16, kq, ptr]) [Say.is (.slice (some ⟨w'.heap.size, 0, none⟩) 64 64), Say.is (.string ⟨Z.toArray⟩), Say.is (.pointer (some ⟨gm, 0, none⟩)), Say.is (.int .i64 (j : Int)), Say.is (.int .i64 (q : Int)), Say.is (.string ⟨Z.toArray⟩), Say.is (.bool false)] (by kernel_rfl) (by kernel_rfl) (by kernel_rfl) (by kernel_rfl) ?_ ?_
    · intro i o ho a w2 hb hsz old dep
      match i, ho with
      | 0, ho =>
        obtain rfl := Option.some.inj ho
        have o18 : a.tmps.getD 18 undef = .slice (some ⟨w'.heap.size, 0, none⟩) 64 64 := (old 18 (by kernel_rfl)).trans (by simp [Array.getD_eq_getD_getElem?, hs1, k3, k4, k16, kq, ptr])
        have oe18 : a.tmps[18]?.getD undef = _ := (Array.getD_eq_getD_getElem? ..).symm.trans o18
        rw [if_pos (wanted_none rfl)]
        refine grow_same (v := .slice (some ⟨w'.heap.size, 0, none⟩) 64 64) ?_ rfl
        clear old dep ho hsz hb
        go_simp
      | 1, ho =>
        obtain rfl := Option.some.inj ho
        have d0 : a.tmps.getD 250 undef = .slice (some ⟨w'.heap.size, 0, none⟩) 64 64 := dep 0 _ _ (by kernel_rfl) rfl rfl
        have e0 : a.tmps[250]?.getD undef = _ := (Array.getD_eq_getD_getElem? ..).symm.trans d0
        rw [if_pos (wanted_none rfl)]
        have hcv := conv_blk 64 HP8.out (blk_below HX8.out hb)
        refine grow_same (v := .string ⟨Z.toArray⟩) ?_ rfl
        clear old dep ho hsz hb
        go_simp
      | 2, ho =>
        obtain rfl := Option.some.inj ho
        have o4 : a.tmps.getD 4 undef = .pointer (some ⟨gm, 0, none⟩) := (old 4 (by kernel_rfl)).trans (by simp [Array.getD_eq_getD_getElem?, hs1, k3, k4, k16, kq, ptr])
        have oe4 : a.tmps[4]?.getD undef = _ := (Array.getD_eq_getD_getElem? ..).symm.trans o4
        rw [if_pos (wanted_none rfl)]
        refine grow_same (v := .pointer (some ⟨gm, 0, none⟩)) ?_ rfl
        clear old dep ho hsz hb
        go_simp
      | 3, ho =>
        obtain rfl := Option.some.inj ho
        have o16 : a.tmps.getD 16 undef = .int .i64 (j : Int) := (old 16 (by kernel_rfl)).trans (by simp [Array.getD_eq_getD_getElem?, hs1, k3, k4, k16, kq, ptr])
        have oe16 : a.tmps[16]?.getD undef = _ := (Array.getD_eq_getD_getElem? ..).symm.trans o16
        rw [if_pos (wanted_none rfl)]
        refine grow_same (v := .int .i64 (j : Int)) ?_ rfl
        clear old dep ho hsz hb
        go_simp
      | 4, ho =>
        obtain rfl := Option.some.inj ho
        have o17 : a.tmps.getD 17 undef = .int .i64 (q : Int) := (old 17 (by kernel_rfl)).trans (by simp [Array.getD_eq_getD_getElem?, hs1, k3, k4, k16, kq, ptr])
        have oe17 : a.tmps[17]?.getD undef = _ := (Array.getD_eq_getD_getElem? ..).symm.trans o17
        rw [if_pos (wanted_none rfl)]
        refine grow_same (v := .int .i64 (q : Int)) ?_ rfl
        clear old dep ho hsz hb
        go_simp
      | 5, ho =>
        obtain rfl := Option.some.inj ho
        have d2 : a.tmps.getD 252 undef = .pointer (some ⟨gm, 0, none⟩) := dep 2 _ _ (by kernel_rfl) rfl rfl
        have e2 : a.tmps[252]?.getD undef = _ := (Array.getD_eq_getD_getElem? ..).symm.trans d2
        have d3 : a.tmps.getD 253 undef = .int .i64 (j : Int) := dep 3 _ _ (by kernel_rfl) rfl rfl
        have e3 : a.tmps[253]?.getD undef = _ := (Array.getD_eq_getD_getElem? ..).symm.trans d3
        have d4 : a.tmps.getD 254 undef = .int .i64 (q : Int) := dep 4 _ _ (by kernel_rfl) rfl rfl
        have e4 : a.tmps[254]?.getD undef = _ := (Array.getD_eq_getD_getElem? ..).symm.trans d4
        rw [if_pos (wanted_none rfl)]
        refine grow_enters (f := 12) (args := #[.pointer (some ⟨gm, 0, none⟩), .int .i64 (j : Int), .int .i64 (q : Int)]) ?_ (mdl_read hS8 hb hk hj hq8 HZ.out)
        clear old dep ho hsz hb
        go_simp
      | 6, ho =>
        obtain rfl := Option.some.inj ho
        have d1 : a.tmps.getD 251 undef = .string ⟨Z.toArray⟩ := dep 1 _ _ (by kernel_rfl) rfl rfl
        have e1 : a.tmps[251]?.getD undef = _ := (Array.getD_eq_getD_getElem? ..).symm.trans d1
        have d5 : a.tmps.getD 255 undef = .string ⟨Z.toArray⟩ := dep 5 _ _ (by kernel_rfl) rfl rfl
        have e5 : a.tmps[255]?.getD undef = _ := (Array.getD_eq_getD_getElem? ..).symm.trans d5
        rw [if_pos (wanted_none rfl)]
        refine grow_same (v := .bool false) ?_ rfl
        clear old dep ho hsz hb
        go_simp
      | i + 7, ho => exact absurd ho (by simp)
    · intro a w9 hb hsz hdf fin keep
      have kptm2 : Keeps SK tm1 a.tmps := Keeps.region hsz keep (by kernel_rfl) (by dsimp only; repeat (first | (with_reducible exact Keeps.refl _ _) | ((with_reducible refine Keeps.put ?_ ?_ _); rfl)))
      have hstm2 : a.tmps.size = 264 := hsz.trans (by simp [hs1, k3, k4, k16, kq, ptr])
      have vtm2_240 : a.tmps[240]? = some (.int .i64 (q : Int)) := slot_get ((keep 240 (by kernel_rfl)).trans (by simp [Array.getD_eq_getD_getElem?, hs1, k3, k4, k16, kq, ptr])) (by omega)
      have vtm2_256 : a.tmps[256]? = some (.bool false) := slot_get (fin 6 _ _ rfl rfl) (by omega)
      obtain ⟨tm2, df⟩ := a
      dsimp only at hdf hsz kptm2 hstm2 vtm2_240 vtm2_256
      subst hdf
      clear fin keep hsz
      have hS9 := hS8.below hb
      have z1 := slot_at vtm2_256 (by omega)
      have z2 := slot_at vtm2_240 (by omega)
      clear hb vtm2_256 vtm2_240
      go_wp2
      refine wp_cond_false (by simp [Act.eval, hstm2, z1]) ?_
      go_wp2
      refine ⟨⟨_, q + 1, rfl, by omega, hkp.trans (by repeat (first | (with_reducible exact kptm2) | ((with_reducible refine Keeps.put ?_ ?_ _); rfl))), by simp [hstm2], hS9⟩, ?_⟩
      rw [hmu]
      simp [intOf, hstm2, Array.getD_eq_getD_getElem?]
      omega
  · obtain rfl : q = 8 := by omega
    go_wp2
    refine wp_cond_false (by simp [Act.eval, hs1]) ?_
    go_wp2
    exact hK _ _ (by repeat (first | (with_reducible exact hkp) | ((with_reducible refine Keeps.put ?_ ?_ _); rfl))) hS
def SI (t : Nat) : Bool := t == 16 || t == 17 || t == 18 || t == 19 || (decide (213 ≤ t) && decide (t ≤ 258))
theorem sk_si (t : Nat) (h : SI t = false) : SK t = false := by
  simp only [SI, SK, Bool.or_eq_false_iff, Bool.and_eq_false_iff, decide_eq_false_iff_not, beq_eq_false_iff_ne] at h ⊢
  omega
set_option maxHeartbeats 2000000 in
theorem runs_i {w0 w : World} {gm d n k : Nat} {D : Ds} {PC : Array Value} {dat : Nat → Nat → List UInt8} {wt : Nat → List CallD} {lf : Nat → Int} {vs : Nat → Value} (hS : St w0 w gm d n k D PC dat wt lf vs) (hk : k ≤ 200)
    {tm : Array Value} (hs : tm.size = 264) (f3 : tm[3]? = some (ptr d)) (f4 : tm[4]? = some (ptr gm)) (f213 : tm[213]? = some (.int .i64 0)) {Q : Exit → Act → World → Prop}
    (hK : ∀ tm' w', Keeps SI tm tm' → St w0 w' gm d n k D PC dat wt lf vs → Q (.exit 7) ⟨tm', []⟩ w') :
    Code.wp Try.prog (subC (Try.f3.body.getD .skip) [1,1,1,1,1,1,0,1,0,0,1,1,0,0,1,1,1,1,1,1,0]) Q ⟨tm, []⟩ w := by
  conv => arg 2; whnf
  refine wp_loop (fun a w' => ∃ (tm' : Array Value) (j : Nat), a = ⟨tm', []⟩ ∧ j ≤ 3 ∧ Keeps SI tm tm' ∧ tm'[213]? = some (.int .i64 (j : Int)) ∧ St w0 w' gm d n k D PC dat wt lf vs) (fun a _ => 3 - (intOf (a.tmps.getD 213 undef)).toNat) ⟨_, 0, rfl, by omega, Keeps.refl _ _, f213, hS⟩ ?_
  rintro a w' ⟨tm1, j, rfl, hj, hkp, fj, hS⟩
  have hs1 : tm1.size = 264 := hkp.1.trans hs
  have k3 := slot_at (hkp.get rfl f3) (by omega)
  have k4 := slot_at (hkp.get rfl f4) (by omega)
  have kj := slot_at fj (by omega)
  have hmu : intOf (tm1.getD 213 undef) = (j : Int) := by rw [slot_getD fj]; rfl
  clear f3 f4 f213 hs
  by_cases hj3 : j < 3
  · have hj0 : (0 : Int) ≤ (j : Int) := by omega
    have hj1 : (j : Int) < 3 := by omega
    obtain ⟨rg, hat, his⟩ := hS.tie.is j hj3
    obtain ⟨A5, c5, hv5, hp5, _⟩ := hS.md.row hj3
    have hc5 := hS.md.blk.cell _ _ hp5
    have hc6 := hS.md.blk.cell _ _ (hS.md.lefts j hj3)
    have hwt := rn_waits_eq hat his
    have hdn := rn_dn_eq hat his
    obtain ⟨z, hz⟩ : ∃ z, lf j = z := ⟨_, rfl⟩
    obtain ⟨wn, hwn⟩ : ∃ wn, (wt j).length = wn := ⟨_, rfl⟩
    obtain ⟨bz, hbz⟩ : ∃ bz, (z == 0) = bz := ⟨_, rfl⟩
    rw [hz] at hdn hc6
    rw [hwn] at hc5 hwt
    have HDN := hide (show D.dn (j : Int) = bz by rw [hdn, ← hbz]; rfl)
    have HWT := hide hwt
    have HBZ := hide hbz
    have HC5 := hide hc5
    have HC6 := hide hc6
    have HGL := hide hS.md.blk.lt
    clear hdn hwt hbz hc5 hc6 hwn hz hp5 hv5 hat his
    go_wp2
    refine wp_cond_true (by simp [Act.eval, hs1]) ?_
    go_wp2
    refine region_grows_n 264 (by simp [hs1, k3, k4, kj, ptr]) [Say.is (ptr d), Say.is (.int .i64 (j : Int)), Say.is (.int .i64 (wn : Int)), Say.is (.pointer (some ⟨gm, 0, none⟩)), Say.is (.int .i64 (j : Int)), Say.is (.pointer (some ⟨gm, 0, none⟩)), Say.is (.pointer (some ⟨gm, 24, none⟩)), Say.is (.pointer (some ⟨gm, 24 + j, none⟩)), Say.is (.slice A5 wn c5), Say.is (.int .i64 (wn : Int)), Say.is (.bool false), Say.is (.bool false), Say.is (ptr d), Say.is (.int .i64 (j : Int)), Say.is (.bool bz), Say.is (.pointer (some ⟨gm, 0, none⟩)), Say.is (.int .i64 (j : Int)), Say.is (.pointer (some ⟨gm, 0, none⟩)), Say.is (.pointer (some ⟨gm, 27, none⟩)), Say.is (.pointer (some ⟨gm, 27 + j, none⟩)), Say.is (.int .i64 z), Say.is (.bool bz), Say.is (.bool false), Say.is (.bool false)] (by kernel_rfl) (by kernel_rfl) (by kernel_rfl) (by kernel_rfl) ?_ ?_
    · intro i o ho a w2 hb hsz old dep
      match i, ho with
      | 0, ho =>
        obtain rfl := Option.some.inj ho
        have o3 : a.tmps.getD 3 undef = ptr d := (old 3 (by kernel_rfl)).trans (by simp [Array.getD_eq_getD_getElem?, hs1, k3, k4, kj, ptr])
        have oe3 : a.tmps[3]?.getD undef = _ := (Array.getD_eq_getD_getElem? ..).symm.trans o3
        rw [if_pos (wanted_none rfl)]
        refine grow_same (v := ptr d) ?_ rfl
        clear old dep ho hsz hb
        go_simp
      | 1, ho =>
        obtain rfl := Option.some.inj ho
        have o16 : a.tmps.getD 16 undef = .int .i64 (j : Int) := (old 16 (by kernel_rfl)).trans (by simp [Array.getD_eq_getD_getElem?, hs1, k3, k4, kj, ptr])
        have oe16 : a.tmps[16]?.getD undef = _ := (Array.getD_eq_getD_getElem? ..).symm.trans o16
        rw [if_pos (wanted_none rfl)]
        refine grow_same (v := .int .i64 (j : Int)) ?_ rfl
        clear old dep ho hsz hb
        go_simp
      | 2, ho =>
        obtain rfl := Option.some.inj ho
        have d0 : a.tmps.getD 216 undef = ptr d := dep 0 _ _ (by kernel_rfl) rfl rfl
        have e0 : a.tmps[216]?.getD undef = _ := (Array.getD_eq_getD_getElem? ..).symm.trans d0
        have d1 : a.tmps.getD 217 undef = .int .i64 (j : Int) := dep 1 _ _ (by kernel_rfl) rfl rfl
        have e1 : a.tmps[217]?.getD undef = _ := (Array.getD_eq_getD_getElem? ..).symm.trans d1
        rw [if_pos (wanted_none rfl)]
        refine grow_enters (f := 13) (args := #[ptr d, .int .i64 (j : Int)]) ?_ (rn_waits_g hS hb HWT.out)
        clear old dep ho hsz hb
        go_simp
      | 3, ho =>
        obtain rfl := Option.some.inj ho
        have o4 : a.tmps.getD 4 undef = .pointer (some ⟨gm, 0, none⟩) := (old 4 (by kernel_rfl)).trans (by simp [Array.getD_eq_getD_getElem?, hs1, k3, k4, kj, ptr])
        have oe4 : a.tmps[4]?.getD undef = _ := (Array.getD_eq_getD_getElem? ..).symm.trans o4
        rw [if_pos (wanted_none rfl)]
        refine grow_same (v := .pointer (some ⟨gm, 0, none⟩)) ?_ rfl
        clear old dep ho hsz hb
        go_simp
      | 4, ho =>
        obtain rfl := Option.some.inj ho
        have o16 : a.tmps.getD 16 undef = .int .i64 (j : Int) := (old 16 (by kernel_rfl)).trans (by simp [Array.getD_eq_getD_getElem?, hs1, k3, k4, kj, ptr])
        have oe16 : a.tmps[16]?.getD undef = _ := (Array.getD_eq_getD_getElem? ..).symm.trans o16
        rw [if_pos (wanted_none rfl)]
        refine grow_same (v := .int .i64 (j : Int)) ?_ rfl
        clear old dep ho hsz hb
        go_simp
      | 5, ho =>
        obtain rfl := Option.some.inj ho
        have d3 : a.tmps.getD 219 undef = .pointer (some ⟨gm, 0, none⟩) := dep 3 _ _ (by kernel_rfl) rfl rfl
        have e3 : a.tmps[219]?.getD undef = _ := (Array.getD_eq_getD_getElem? ..).symm.trans d3
        rw [if_pos (wanted_none rfl)]
        refine grow_same (v := .pointer (some ⟨gm, 0, none⟩)) ?_ rfl
        clear old dep ho hsz hb
        go_simp
      | 6, ho =>
        obtain rfl := Option.some.inj ho
        have d5 : a.tmps.getD 221 undef = .pointer (some ⟨gm, 0, none⟩) := dep 5 _ _ (by kernel_rfl) rfl rfl
        have e5 : a.tmps[221]?.getD undef = _ := (Array.getD_eq_getD_getElem? ..).symm.trans d5
        rw [if_pos (wanted_none rfl)]
        refine grow_same (v := .pointer (some ⟨gm, 24, none⟩)) ?_ rfl
        clear old dep ho hsz hb
        go_simp
      | 7, ho =>
        obtain rfl := Option.some.inj ho
        have d4 : a.tmps.getD 220 undef = .int .i64 (j : Int) := dep 4 _ _ (by kernel_rfl) rfl rfl
        have e4 : a.tmps[220]?.getD undef = _ := (Array.getD_eq_getD_getElem? ..).symm.trans d4
        have d6 : a.tmps.getD 222 undef = .pointer (some ⟨gm, 24, none⟩) := dep 6 _ _ (by kernel_rfl) rfl rfl
        have e6 : a.tmps[222]?.getD undef = _ := (Array.getD_eq_getD_getElem? ..).symm.trans d6
        rw [if_pos (wanted_none rfl)]
        refine grow_same (v := .pointer (some ⟨gm, 24 + j, none⟩)) ?_ rfl
        clear old dep ho hsz hb
        go_simp
      | 8, ho =>
        obtain rfl := Option.some.inj ho
        have d7 : a.tmps.getD 223 undef = .pointer (some ⟨gm, 24 + j, none⟩) := dep 7 _ _ (by kernel_rfl) rfl rfl
        have e7 : a.tmps[223]?.getD undef = _ := (Array.getD_eq_getD_getElem? ..).symm.trans d7
        rw [if_pos (wanted_none rfl)]
        have g0 := (hb.cell (p := ⟨gm, 24 + j, none⟩) HGL.out).trans HC5.out
        refine grow_same (v := .slice A5 wn c5) ?_ rfl
        clear old dep ho hsz hb
        go_simp
      | 9, ho =>
        obtain rfl := Option.some.inj ho
        have d8 : a.tmps.getD 224 undef = .slice A5 wn c5 := dep 8 _ _ (by kernel_rfl) rfl rfl
        have e8 : a.tmps[224]?.getD undef = _ := (Array.getD_eq_getD_getElem? ..).symm.trans d8
        rw [if_pos (wanted_none rfl)]
        refine grow_same (v := .int .i64 (wn : Int)) ?_ rfl
        clear old dep ho hsz hb
        go_simp
      | 10, ho =>
        obtain rfl := Option.some.inj ho
        have d2 : a.tmps.getD 218 undef = .int .i64 (wn : Int) := dep 2 _ _ (by kernel_rfl) rfl rfl
        have e2 : a.tmps[218]?.getD undef = _ := (Array.getD_eq_getD_getElem? ..).symm.trans d2
        have d9 : a.tmps.getD 225 undef = .int .i64 (wn : Int) := dep 9 _ _ (by kernel_rfl) rfl rfl
        have e9 : a.tmps[225]?.getD undef = _ := (Array.getD_eq_getD_getElem? ..).symm.trans d9
        rw [if_pos (wanted_none rfl)]
        refine grow_same (v := .bool false) ?_ rfl
        clear old dep ho hsz hb
        go_simp
      | 11, ho =>
        obtain rfl := Option.some.inj ho
        have d10 : a.tmps.getD 226 undef = .bool false := dep 10 _ _ (by kernel_rfl) rfl rfl
        have e10 : a.tmps[226]?.getD undef = _ := (Array.getD_eq_getD_getElem? ..).symm.trans d10
        rw [if_pos (wanted_none rfl)]
        refine grow_same (v := .bool false) ?_ rfl
        clear old dep ho hsz hb
        go_simp
      | 12, ho =>
        obtain rfl := Option.some.inj ho
        have o3 : a.tmps.getD 3 undef = ptr d := (old 3 (by kernel_rfl)).trans (by simp [Array.getD_eq_getD_getElem?, hs1, k3, k4, kj, ptr])
        have oe3 : a.tmps[3]?.getD undef = _ := (Array.getD_eq_getD_getElem? ..).symm.trans o3
        have d11 : a.tmps.getD 227 undef = .bool false := dep 11 _ _ (by kernel_rfl) rfl rfl
        have e11 : a.tmps[227]?.getD undef = _ := (Array.getD_eq_getD_getElem? ..).symm.trans d11
        rw [if_pos (wanted_some rfl rfl rfl (by rw [hsz]; simp [hs1, k3, k4, kj, ptr]) d11)]
        refine grow_same (v := ptr d) ?_ rfl
        clear old dep ho hsz hb
        go_simp
      | 13, ho =>
        obtain rfl := Option.some.inj ho
        have o16 : a.tmps.getD 16 undef = .int .i64 (j : Int) := (old 16 (by kernel_rfl)).trans (by simp [Array.getD_eq_getD_getElem?, hs1, k3, k4, kj, ptr])
        have oe16 : a.tmps[16]?.getD undef = _ := (Array.getD_eq_getD_getElem? ..).symm.trans o16
        have d11 : a.tmps.getD 227 undef = .bool false := dep 11 _ _ (by kernel_rfl) rfl rfl
        have e11 : a.tmps[227]?.getD undef = _ := (Array.getD_eq_getD_getElem? ..).symm.trans d11
        rw [if_pos (wanted_some rfl rfl rfl (by rw [hsz]; simp [hs1, k3, k4, kj, ptr]) d11)]
        refine grow_same (v := .int .i64 (j : Int)) ?_ rfl
        clear old dep ho hsz hb
        go_simp
      | 14, ho =>
        obtain rfl := Option.some.inj ho
        have d12 : a.tmps.getD 228 undef = ptr d := dep 12 _ _ (by kernel_rfl) rfl rfl
        have e12 : a.tmps[228]?.getD undef = _ := (Array.getD_eq_getD_getElem? ..).symm.trans d12
        have d13 : a.tmps.getD 229 undef = .int .i64 (j : Int) := dep 13 _ _ (by kernel_rfl) rfl rfl
        have e13 : a.tmps[229]?.getD undef = _ := (Array.getD_eq_getD_getElem? ..).symm.trans d13
        have d11 : a.tmps.getD 227 undef = .bool false := dep 11 _ _ (by kernel_rfl) rfl rfl
        have e11 : a.tmps[227]?.getD undef = _ := (Array.getD_eq_getD_getElem? ..).symm.trans d11
        rw [if_pos (wanted_some rfl rfl rfl (by rw [hsz]; simp [hs1, k3, k4, kj, ptr]) d11)]
        refine grow_enters (f := 14) (args := #[ptr d, .int .i64 (j : Int)]) ?_ (rn_down_g hS hb HDN.out)
        clear old dep ho hsz hb
        go_simp
      | 15, ho =>
        obtain rfl := Option.some.inj ho
        have o4 : a.tmps.getD 4 undef = .pointer (some ⟨gm, 0, none⟩) := (old 4 (by kernel_rfl)).trans (by simp [Array.getD_eq_getD_getElem?, hs1, k3, k4, kj, ptr])
        have oe4 : a.tmps[4]?.getD undef = _ := (Array.getD_eq_getD_getElem? ..).symm.trans o4
        have d11 : a.tmps.getD 227 undef = .bool false := dep 11 _ _ (by kernel_rfl) rfl rfl
        have e11 : a.tmps[227]?.getD undef = _ := (Array.getD_eq_getD_getElem? ..).symm.trans d11
        rw [if_pos (wanted_some rfl rfl rfl (by rw [hsz]; simp [hs1, k3, k4, kj, ptr]) d11)]
        refine grow_same (v := .pointer (some ⟨gm, 0, none⟩)) ?_ rfl
        clear old dep ho hsz hb
        go_simp
      | 16, ho =>
        obtain rfl := Option.some.inj ho
        have o16 : a.tmps.getD 16 undef = .int .i64 (j : Int) := (old 16 (by kernel_rfl)).trans (by simp [Array.getD_eq_getD_getElem?, hs1, k3, k4, kj, ptr])
        have oe16 : a.tmps[16]?.getD undef = _ := (Array.getD_eq_getD_getElem? ..).symm.trans o16
        have d11 : a.tmps.getD 227 undef = .bool false := dep 11 _ _ (by kernel_rfl) rfl rfl
        have e11 : a.tmps[227]?.getD undef = _ := (Array.getD_eq_getD_getElem? ..).symm.trans d11
        rw [if_pos (wanted_some rfl rfl rfl (by rw [hsz]; simp [hs1, k3, k4, kj, ptr]) d11)]
        refine grow_same (v := .int .i64 (j : Int)) ?_ rfl
        clear old dep ho hsz hb
        go_simp
      | 17, ho =>
        obtain rfl := Option.some.inj ho
        have d15 : a.tmps.getD 231 undef = .pointer (some ⟨gm, 0, none⟩) := dep 15 _ _ (by kernel_rfl) rfl rfl
        have e15 : a.tmps[231]?.getD undef = _ := (Array.getD_eq_getD_getElem? ..).symm.trans d15
        have d11 : a.tmps.getD 227 undef = .bool false := dep 11 _ _ (by kernel_rfl) rfl rfl
        have e11 : a.tmps[227]?.getD undef = _ := (Array.getD_eq_getD_getElem? ..).symm.trans d11
        rw [if_pos (wanted_some rfl rfl rfl (by rw [hsz]; simp [hs1, k3, k4, kj, ptr]) d11)]
        refine grow_same (v := .pointer (some ⟨gm, 0, none⟩)) ?_ rfl
        clear old dep ho hsz hb
        go_simp
      | 18, ho =>
        obtain rfl := Option.some.inj ho
        have d17 : a.tmps.getD 233 undef = .pointer (some ⟨gm, 0, none⟩) := dep 17 _ _ (by kernel_rfl) rfl rfl
        have e17 : a.tmps[233]?.getD undef = _ := (Array.getD_eq_getD_getElem? ..).symm.trans d17
        have d11 : a.tmps.getD 227 undef = .bool false := dep 11 _ _ (by kernel_rfl) rfl rfl
        have e11 : a.tmps[227]?.getD undef = _ := (Array.getD_eq_getD_getElem? ..).symm.trans d11
        rw [if_pos (wanted_some rfl rfl rfl (by rw [hsz]; simp [hs1, k3, k4, kj, ptr]) d11)]
        refine grow_same (v := .pointer (some ⟨gm, 27, none⟩)) ?_ rfl
        clear old dep ho hsz hb
        go_simp
      | 19, ho =>
        obtain rfl := Option.some.inj ho
        have d16 : a.tmps.getD 232 undef = .int .i64 (j : Int) := dep 16 _ _ (by kernel_rfl) rfl rfl
        have e16 : a.tmps[232]?.getD undef = _ := (Array.getD_eq_getD_getElem? ..).symm.trans d16
        have d18 : a.tmps.getD 234 undef = .pointer (some ⟨gm, 27, none⟩) := dep 18 _ _ (by kernel_rfl) rfl rfl
        have e18 : a.tmps[234]?.getD undef = _ := (Array.getD_eq_getD_getElem? ..).symm.trans d18
        have d11 : a.tmps.getD 227 undef = .bool false := dep 11 _ _ (by kernel_rfl) rfl rfl
        have e11 : a.tmps[227]?.getD undef = _ := (Array.getD_eq_getD_getElem? ..).symm.trans d11
        rw [if_pos (wanted_some rfl rfl rfl (by rw [hsz]; simp [hs1, k3, k4, kj, ptr]) d11)]
        refine grow_same (v := .pointer (some ⟨gm, 27 + j, none⟩)) ?_ rfl
        clear old dep ho hsz hb
        go_simp
      | 20, ho =>
        obtain rfl := Option.some.inj ho
        have d19 : a.tmps.getD 235 undef = .pointer (some ⟨gm, 27 + j, none⟩) := dep 19 _ _ (by kernel_rfl) rfl rfl
        have e19 : a.tmps[235]?.getD undef = _ := (Array.getD_eq_getD_getElem? ..).symm.trans d19
        have d11 : a.tmps.getD 227 undef = .bool false := dep 11 _ _ (by kernel_rfl) rfl rfl
        have e11 : a.tmps[227]?.getD undef = _ := (Array.getD_eq_getD_getElem? ..).symm.trans d11
        rw [if_pos (wanted_some rfl rfl rfl (by rw [hsz]; simp [hs1, k3, k4, kj, ptr]) d11)]
        have g0 := (hb.cell (p := ⟨gm, 27 + j, none⟩) HGL.out).trans HC6.out
        refine grow_same (v := .int .i64 z) ?_ rfl
        clear old dep ho hsz hb
        go_simp
      | 21, ho =>
        obtain rfl := Option.some.inj ho
        have d20 : a.tmps.getD 236 undef = .int .i64 z := dep 20 _ _ (by kernel_rfl) rfl rfl
        have e20 : a.tmps[236]?.getD undef = _ := (Array.getD_eq_getD_getElem? ..).symm.trans d20
        have d11 : a.tmps.getD 227 undef = .bool false := dep 11 _ _ (by kernel_rfl) rfl rfl
        have e11 : a.tmps[227]?.getD undef = _ := (Array.getD_eq_getD_getElem? ..).symm.trans d11
        rw [if_pos (wanted_some rfl rfl rfl (by rw [hsz]; simp [hs1, k3, k4, kj, ptr]) d11)]
        have hz2 := HBZ.out
        refine grow_same (v := .bool bz) ?_ rfl
        clear old dep ho hsz hb
        go_simp
      | 22, ho =>
        obtain rfl := Option.some.inj ho
        have d14 : a.tmps.getD 230 undef = .bool bz := dep 14 _ _ (by kernel_rfl) rfl rfl
        have e14 : a.tmps[230]?.getD undef = _ := (Array.getD_eq_getD_getElem? ..).symm.trans d14
        have d21 : a.tmps.getD 237 undef = .bool bz := dep 21 _ _ (by kernel_rfl) rfl rfl
        have e21 : a.tmps[237]?.getD undef = _ := (Array.getD_eq_getD_getElem? ..).symm.trans d21
        have d11 : a.tmps.getD 227 undef = .bool false := dep 11 _ _ (by kernel_rfl) rfl rfl
        have e11 : a.tmps[227]?.getD undef = _ := (Array.getD_eq_getD_getElem? ..).symm.trans d11
        rw [if_pos (wanted_some rfl rfl rfl (by rw [hsz]; simp [hs1, k3, k4, kj, ptr]) d11)]
        refine grow_same (v := .bool false) ?_ rfl
        clear old dep ho hsz hb
        go_simp
      | 23, ho =>
        obtain rfl := Option.some.inj ho
        have d11 : a.tmps.getD 227 undef = .bool false := dep 11 _ _ (by kernel_rfl) rfl rfl
        have e11 : a.tmps[227]?.getD undef = _ := (Array.getD_eq_getD_getElem? ..).symm.trans d11
        have d22 : a.tmps.getD 238 undef = .bool false := dep 22 _ _ (by kernel_rfl) rfl rfl
        have e22 : a.tmps[238]?.getD undef = _ := (Array.getD_eq_getD_getElem? ..).symm.trans d22
        rw [if_pos (wanted_none rfl)]
        refine grow_same (v := .bool false) ?_ rfl
        clear old dep ho hsz hb
        go_simp
      | i + 24, ho => exact absurd ho (by simp)
    · intro a w8 hb hsz hdf fin keep
      have kptm2 : Keeps SI tm1 a.tmps := Keeps.region hsz keep (by kernel_rfl) (by dsimp only; repeat (first | (with_reducible exact Keeps.refl _ _) | ((with_reducible refine Keeps.put ?_ ?_ _); rfl)))
      have hstm2 : a.tmps.size = 264 := hsz.trans (by simp [hs1, k3, k4, kj, ptr])
      have vtm2_3 : a.tmps[3]? = some (ptr d) := slot_get ((keep 3 (by kernel_rfl)).trans (by simp [Array.getD_eq_getD_getElem?, hs1, k3, k4, kj, ptr])) (by omega)
      have vtm2_4 : a.tmps[4]? = some (ptr gm) := slot_get ((keep 4 (by kernel_rfl)).trans (by simp [Array.getD_eq_getD_getElem?, hs1, k3, k4, kj, ptr])) (by omega)
      have vtm2_16 : a.tmps[16]? = some (.int .i64 (j : Int)) := slot_get ((keep 16 (by kernel_rfl)).trans (by simp [Array.getD_eq_getD_getElem?, hs1, k3, k4, kj, ptr])) (by omega)
      have vtm2_213 : a.tmps[213]? = some (.int .i64 (j : Int)) := slot_get ((keep 213 (by kernel_rfl)).trans (by simp [Array.getD_eq_getD_getElem?, hs1, k3, k4, kj, ptr])) (by omega)
      have vtm2_239 : a.tmps[239]? = some (.bool false) := slot_get (fin 23 _ _ rfl rfl) (by omega)
      obtain ⟨tm2, df⟩ := a
      dsimp only at hdf hsz kptm2 hstm2 vtm2_3 vtm2_4 vtm2_16 vtm2_213 vtm2_239
      subst hdf
      clear fin keep hsz
      have hS8 := hS.below hb
      have z1 := slot_at vtm2_239 (by omega)
      have y3 := slot_at vtm2_3 (by omega)
      have y4 := slot_at vtm2_4 (by omega)
      have y16 := slot_at vtm2_16 (by omega)
      have yj := slot_at vtm2_213 (by omega)
      clear hb
      go_wp2
      refine wp_cond_false (by simp [Act.eval, hstm2, z1]) ?_
      go_wp2
      refine runs_k hS8 hk hj3 (by simp [hstm2]) (by simp [hstm2, y3]) (by simp [hstm2, y4]) (by simp [hstm2, y16]) (by simp [hstm2]) ?_
      intro tm3 w9 hkp3 hS9
      have hs3 : tm3.size = 264 := hkp3.1.trans (by simp [hstm2])
      have k213 := slot_at (hkp3.get (t := 213) (v := .int .i64 (j : Int)) rfl (by simp [hstm2, yj])) (by omega)
      have kp8 : Keeps SI tm1 (tm2.setIfInBounds 240 (.int .i64 0)) := kptm2.set rfl _
      go_wp2
      refine ⟨⟨_, j + 1, rfl, by omega, hkp.trans (by repeat (first | (with_reducible exact Keeps.trans kp8 (Keeps.more hkp3 sk_si)) | ((with_reducible refine Keeps.put ?_ ?_ _); rfl))), by simp [hs3], hS9⟩, ?_⟩
      rw [hmu]
      simp [intOf, hs3, Array.getD_eq_getD_getElem?]
      omega
  · obtain rfl : j = 3 := by omega
    go_wp2
    refine wp_cond_false (by simp [Act.eval, hs1]) ?_
    go_wp2
    exact hK _ _ (by repeat (first | (with_reducible exact hkp) | ((with_reducible refine Keeps.put ?_ ?_ _); rfl))) hS
end Go.Proofs.Ythlclhfepnmaeaa
