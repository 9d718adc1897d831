/-
  fill of the statements of stage 5: a page of rows, and its slots as a slice of texts.
-/
import Derived.Test.YtajpjffjhnmfmaaFit
namespace Go.Proofs.Ytajpjffjhnmfmaa
open Go.RowKit

set_option linter.unusedSimpArgs false
set_option linter.unusedVariables false

theorem and16 (x : Int) : ∃ n : Nat, n < 65536 ∧ bits .and .i64 x 65535 = (n : Int) ∧ (n : Int) = x % 65536 := by
  have h2 : bits .and .i64 x 65535 = IntKind.i64.wrap (((BitVec.ofInt 64 x &&& BitVec.ofInt 64 65535).toNat : Int)) := rfl
  have h4 : (BitVec.ofInt 64 65535).toNat = 2 ^ 16 - 1 := by rw [BitVec.toNat_ofInt]; rfl
  rw [h2, BitVec.toNat_and, h4, Nat.and_two_pow_sub_one_eq_mod, BitVec.toNat_ofInt]
  refine ⟨(x % ((2 ^ 64 : Nat) : Int)).toNat % 2 ^ 16, by omega, ?_, ?_⟩
  · rw [IntKind.wrap_i64]; omega
  · omega
/-- The texts of a page's slots. -/
def Pg.strs (p : Pg) : Array Value := #[.string (p.s 0), .string (p.s 1), .string (p.s 2), .string (p.s 3), .string (p.s 4)]
theorem strs_get (p : Pg) {k : Nat} (hk : k < 5) : p.strs[k]? = some (.string (p.s k)) := by
  match k, hk with
  | 0, _ => rfl
  | 1, _ => rfl
  | 2, _ => rfl
  | 3, _ => rfl
  | 4, _ => rfl
theorem strs_set (p : Pg) {k : Nat} (hk : k < 5) (s : ByteArray) : p.strs.setIfInBounds k (.string s) = (p.set k s).strs := by
  match k, hk with
  | 0, _ => rfl
  | 1, _ => rfl
  | 2, _ => rfl
  | 3, _ => rfl
  | 4, _ => rfl
theorem run_make5 (W : World) : (Instr.makeSlice 28 (.int .i64 5) (.int .i64 5)).run Try.prog W = .ok (.slice (some ⟨W.heap.size, 0, none⟩) 5 5) (W.alloc (.cells #[.string ⟨#[]⟩, .string ⟨#[]⟩, .string ⟨#[]⟩, .string ⟨#[]⟩, .string ⟨#[]⟩] 9)) := by
  rw [show (#[.string ⟨#[]⟩, .string ⟨#[]⟩, .string ⟨#[]⟩, .string ⟨#[]⟩, .string ⟨#[]⟩] : Array Value) = madeCells #[.string ⟨#[]⟩] 5 from (by kernel_rfl)]
  exact run_make_row' (P := Try.prog) 28 9 (.string ⟨#[]⟩) 16 Try.underlying28 (by kernel_rfl) rfl .i64 .i64 5 (by omega) (by omega) W
/-- A page and its texts. -/
def Fld (w wr : World) (g gm : Nat) (p : Pg) : Prop :=
  PgB wr g p ∧ Blk wr gm 9 p.strs ∧ Below w.heap.size w wr ∧ w.heap.size ≤ g ∧ g < gm
theorem Fld.below {w wr wr' : World} {g gm : Nat} {p : Pg} (h : Fld w wr g gm p) (hb : Below wr.heap.size wr wr') : Fld w wr' g gm p := by
  obtain ⟨h1, h2, h3, h4, h5⟩ := h
  exact ⟨h1.below hb, h2.below hb, h3.trans (hb.mono h3.size), h4, h5⟩
theorem Fld.alloc {w wr : World} {g gm : Nat} {p : Pg} (h : Fld w wr g gm p) (o : Obj) : Fld w (wr.alloc o) g gm p := h.below ((Below.refl _ _).alloc (Nat.le_refl _) o)
theorem Fld.cell {w wr : World} {g gm : Nat} {p : Pg} (h : Fld w wr g gm p) {k : Nat} (hk : k < 5) : wr.cell? ⟨gm, k, none⟩ = some (.string (p.s k)) := h.2.1.cell k _ (strs_get p hk)
theorem Fld.frozen {w wr : World} {g gm : Nat} {p : Pg} (h : Fld w wr g gm p) (k : Nat) : wr.frozen? ⟨gm, k, none⟩ = false := h.2.1.frozen k
theorem Fld.pg {w wr : World} {g gm : Nat} {p : Pg} (h : Fld w wr g gm p) : PgB wr g p := h.1
theorem Fld.bel {w wr : World} {g gm : Nat} {p : Pg} (h : Fld w wr g gm p) : Below w.heap.size w wr := h.2.2.1
/-- A text stored, then set. -/
theorem Fld.pg_far {w wr : World} {g gm : Nat} {p : Pg} (h : Fld w wr g gm p) (k : Nat) (u : Value) : PgB (wr.setCell ⟨gm, k, none⟩ u) g p := h.1.far (show g ≠ gm by have := h.2.2.2.2; omega) u
theorem Fld.put {w wr w' : World} {g gm : Nat} {p : Pg} (h : Fld w wr g gm p) {k : Nat} (hk : k < 5) (s : ByteArray) (hp : PgB w' g (p.set k s)) (hg : (wr.setCell ⟨gm, k, none⟩ (.string s)).grownBy w' (some g)) : Fld w w' g gm (p.set k s) := by
  obtain ⟨h1, h2, h3, h4, h5⟩ := h
  have hb : Blk (wr.setCell ⟨gm, k, none⟩ (.string s)) gm 9 (p.set k s).strs := by rw [← strs_set p hk]; exact h2.set_ k _
  exact ⟨hp, hb.grown hg (fun e => by injection e with e; omega), (h3.setCell (p := ⟨gm, k, none⟩) (by show _ ≤ gm; omega) _).grown hg (by have := h3.size; simpa [World.setCell] using this) (fun j hj => by injection hj with hj; omega), h4, h5⟩
theorem RowRow.at_ {w : World} {B : Nat} {A : Option Addr} {c n : Nat} {rs : List RowD} (h : RowRow w B (.slice A n c) rs) {k : Nat} (hk : k < rs.length) : ∃ b o, A = some ⟨b, o, none⟩ ∧ w.cell? ⟨b, o + k * 3, none⟩ = some (.int .i64 rs[k].t) ∧ w.cell? ⟨b, o + k * 3 + 1, none⟩ = some (.string rs[k].k) ∧ w.cell? ⟨b, o + k * 3 + 2, none⟩ = some (.string rs[k].v) := by
  obtain ⟨A', c', he, hc⟩ := h
  injection he with e1 e2 e3
  subst e1
  obtain ⟨b, o, rfl, hbB, hcell⟩ := hc (by omega)
  have hx : rs[k]? = some rs[k] := List.getElem?_eq_getElem hk
  exact ⟨b, o, rfl, hcell k _ hx 0 _ rfl, hcell k _ hx 1 _ rfl, hcell k _ hx 2 _ rfl⟩
theorem fld_new (w : World) (p : Pg) (hp : ∀ j, p.s j = ⟨#[]⟩) : Fld w ((w.alloc (.cells p.cells 35)).alloc (.cells #[.string ⟨#[]⟩, .string ⟨#[]⟩, .string ⟨#[]⟩, .string ⟨#[]⟩, .string ⟨#[]⟩] 9)) w.heap.size (w.heap.size + 1) p := by
  have e : p.strs = #[.string ⟨#[]⟩, .string ⟨#[]⟩, .string ⟨#[]⟩, .string ⟨#[]⟩, .string ⟨#[]⟩] := by unfold Pg.strs; rw [hp, hp, hp, hp, hp]
  refine ⟨(pgb_new w p).alloc _, ?_, ((Below.refl _ _).alloc (Nat.le_refl _) _).alloc (by simp) _, Nat.le_refl _, Nat.lt_succ_self _⟩
  rw [e]
  exact heap_at _ _ (by simp)
set_option maxHeartbeats 2000000 in
theorem fill_any (v : Value) (rs : List RowD) (m : Nat) (x y : Int) (w : World) (h30 : rs.length ≤ 30) (hv : RowRow w w.heap.size v rs) :
    Calls Try.prog 13 #[v, .int .u64 (m : Int), .int .i64 x, .int .i64 y] w fun e w' => ∃ g gm p, e = .returned (.tuple #[ptr g, .slice (some ⟨gm, 0, none⟩) 5 5]) ∧ Fld w w' g gm p ∧
      p.mark = m ∧ (p.ten : Int) = x % 65536 ∧ (p.num : Int) = y % 65536 ∧ ∀ j, j < 5 → okB (p.s j) = true := by
  obtain ⟨t, ht1, ht2, ht3⟩ := and16 x
  obtain ⟨n, hn1, hn2, hn3⟩ := and16 y
  have hmk := run_make5
  have HV := hide hv
  obtain ⟨A, c, rfl, _⟩ := hv
  have HT := hide ht3
  have HN := hide hn3
  have F0 := hide (fld_new w ⟨m, t, n, fun _ => ⟨#[]⟩⟩ (fun _ => rfl))
  unfold Pg.cells at F0
  clear ht3 hn3
  go_enter Try.func13, Try.ntmps13
  go_wp2
  have hs0 := hide (show w.heap.size + 2 ≤ ((w.alloc (.cells #[.int .u64 (m : Int), .int .i64 (t : Int), .int .i64 (n : Int), .string ⟨#[]⟩, .string ⟨#[]⟩, .string ⟨#[]⟩, .string ⟨#[]⟩, .string ⟨#[]⟩] 35)).alloc (.cells #[.string ⟨#[]⟩, .string ⟨#[]⟩, .string ⟨#[]⟩, .string ⟨#[]⟩, .string ⟨#[]⟩] 9)).heap.size by simp)
  go_loopg [24] rs.length (fun q i wr => ∃ (k : Nat) (p : Pg), k + q = rs.length ∧ i = .int .i64 k ∧ Hid (Fld w wr w.heap.size (w.heap.size + 1) p) ∧ Hid (p.mark = m ∧ p.ten = t ∧ p.num = n ∧ ∀ j, j < 5 → okB (p.s j) = true))
  case atStart => exact ⟨0, _, by omega, rfl, F0, hide ⟨rfl, rfl, rfl, fun _ _ => okB_empty⟩⟩
  case round =>
    obtain ⟨k, p, hk, rfl, hf, hp⟩ := hrel
    cases gk with
    | zero =>
      obtain rfl : k = rs.length := by omega
      go_wp2
      obtain ⟨h1, h2, h3, h4⟩ := hp.out
      refine bodyPost_ret (v := .tuple #[ptr w.heap.size, .slice (some ⟨w.heap.size + 1, 0, none⟩) 5 5]) (by simp [results, Try.results13, go_sem, ptr]) rfl ?_
      exact ⟨w.heap.size, w.heap.size + 1, p, rfl, hf.out, h1, by rw [h2]; exact HT.out, by rw [h3]; exact HN.out, h4⟩
    | succ q =>
      have hkl : k < rs.length := by omega
      obtain ⟨b, o, rfl, d0, d1, d2⟩ := (HV.out.below hf.out.bel).at_ hkl
      have hkc : (k : Int) < (rs.length : Int) := by omega
      generalize rs[k] = z at *
      have f1 := hide (hf.out.alloc (.cells #[.int .i64 z.t, .string z.k, .string z.v] 46))
      by_cases h5 : k < 5
      · have h5i : (k : Int) < 5 := by omega
        have R0 : Blk (wr.alloc (.cells #[.int .i64 z.t, .string z.k, .string z.v] 46)) wr.heap.size 46 #[.int .i64 z.t, .string z.k, .string z.v] := heap_new wr _
        cases hr : rightB z.t z.k z.v
        · go_wp2_with (go_at_call 17; refine (right_no _ _ _ _ hr).mono ?_; rintro e w1 ⟨rfl, hb1⟩; have f2 := hide (f1.out.below hb1))
          go_roundg q
          case rel => exact ⟨k + 1, p, by omega, by go_num, f2, hp⟩
          case measure => omega
        · by_cases h3 : k % 3 = 2
          · have h3i : (k : Int) % 3 = 2 := by omega
            go_wp2_with (go_at_call 17; refine (right_yes _ _ _ _ hr).mono ?_; rintro e w1 ⟨rfl, hb1⟩; have f2 := hide (f1.out.below hb1))
            go_roundg q
            case rel => exact ⟨k + 1, p, by omega, by go_num, f2, hp⟩
            case measure => omega
          · have h3i : ¬ (k : Int) % 3 = 2 := by omega
            obtain ⟨zt, zk, zv⟩ := z
            dsimp only at *
            obtain ⟨r1, _, _, _⟩ := rightB_iff.1 hr
            obtain ⟨tn, rfl⟩ : ∃ tn : Nat, zt = (tn : Int) := ⟨zt.toNat, by omega⟩
            obtain ⟨eo, en⟩ := encB_ok hr
            have HR := hide hr
            have hE := fun W => rowenc_str W HR.out
            generalize encB tn zk zv = E at *
            have EO := hide eo
            have EN := hide en
            clear eo en hr r1
            go_wp2_with (first
              | (go_at_call 17; refine (right_yes _ _ _ _ HR.out).mono ?_; rintro e w1 ⟨rfl, hb1⟩; have f2 := hide (f1.out.below hb1); obtain ⟨c0, c1, c2⟩ := (R0.below hb1).three; clear hb1)
              | (go_at_call 18; refine (hE _).mono ?_; rintro e w2 ⟨A2, c2', rfl, hb2, hcv⟩; have f3 := hide (f2.out.below hb2); have cm := f3.out.cell h5; have cf := f3.out.frozen k; clear hb2)
              | (go_at_call 19; refine (set_row (f3.out.pg_far k _) k h5 E EN.out EO.out).mono ?_; rintro e w3 ⟨rfl, hp3, hg3⟩; have f4 := hide (f3.out.put h5 E hp3 hg3); clear hp3 hg3))
            go_roundg q
            case rel =>
              refine ⟨k + 1, p.set k E, by omega, by go_num, f4, hide ⟨hp.out.1, hp.out.2.1, hp.out.2.2.1, fun j hj => ?_⟩⟩
              show okB (if j = k then E else p.s j) = true
              split
              · unfold okB; rw [EO.out]; simp
              · exact hp.out.2.2.2 j hj
            case measure => omega
      · have h5i : ¬ (k : Int) < 5 := by omega
        go_wp2
        go_roundg q
        case rel => exact ⟨k + 1, p, by omega, by go_num, f1, hp⟩
        case measure => omega
/-- The same, its page told. -/
theorem fill_told {t n : Nat} (v : Value) (rs : List RowD) (m : Nat) (x y : Int) (w : World) (h30 : lightsB rs = true) (hx : (t : Int) = x % 65536) (hy : (n : Int) = y % 65536) (hv : RowRow w w.heap.size v rs) :
    Calls Try.prog 13 #[v, .int .u64 (m : Int), .int .i64 x, .int .i64 y] w fun e w' => ∃ g gm s, e = .returned (.tuple #[.pointer (some ⟨g, 0, none⟩), .slice (some ⟨gm, 0, none⟩) 5 5]) ∧ Fld w w' g gm ⟨m, t, n, s⟩ ∧ ∀ j, j < 5 → okB (s j) = true := by
  refine (fill_any v rs m x y w (lights_30 h30) hv).mono ?_
  rintro e w' ⟨g, gm, p, rfl, hF, h1, h2, h3, h4⟩
  obtain ⟨m', t', n', s⟩ := p
  dsimp only at h1 h2 h3 h4
  obtain rfl : t' = t := by omega
  obtain rfl : n' = n := by omega
  subst h1
  exact ⟨g, gm, s, rfl, hF, h4⟩
/-- A page's cells, by name. -/
theorem PgB.all {w : World} {g m t n : Nat} {s : Nat → ByteArray} (h : PgB w g ⟨m, t, n, s⟩) : w.cell? ⟨g, 0, none⟩ = some (.int .u64 (m : Int)) ∧ w.cell? ⟨g, 1, none⟩ = some (.int .i64 (t : Int)) ∧ w.cell? ⟨g, 2, none⟩ = some (.int .i64 (n : Int)) ∧
    w.cell? ⟨g, 3, none⟩ = some (.string (s 0)) ∧ w.cell? ⟨g, 4, none⟩ = some (.string (s 1)) ∧ w.cell? ⟨g, 5, none⟩ = some (.string (s 2)) ∧ w.cell? ⟨g, 6, none⟩ = some (.string (s 3)) ∧ w.cell? ⟨g, 7, none⟩ = some (.string (s 4)) :=
  ⟨h.markC, h.tenC, h.numC, h.slots⟩
theorem encode_mtn (m t n : Nat) (s : Nat → ByteArray) (w : World) (hs : ∀ j, j < 5 → okB (s j) = true) (ht : t < 65536) (hn : n < 65536) :
    Calls Try.prog 14 #[.agg #[.int .u64 (m : Int), .int .i64 (t : Int), .int .i64 (n : Int), .string (s 0), .string (s 1), .string (s 2), .string (s 3), .string (s 4)]] w fun e w' => ∃ A c, e = .returned (.slice A 256 c) ∧ Mine w' w.heap.size (.slice A 256 c) (⟨m, t, n, s⟩ : Pg).encL ∧ Below w.heap.size w w' := by
  have hsz : (⟨m, t, n, s⟩ : Pg).sized := fun j hj => okB_size (hs j hj)
  refine (encode_pg (p := ⟨m, t, n, s⟩) w hsz ht hn).mono ?_
  rintro e w' ⟨v', rfl, hm, hb⟩
  obtain ⟨A, c, rfl⟩ := hm.form
  rw [Pg.encL_length hsz] at hm ⊢
  exact ⟨A, c, rfl, hm, hb⟩
/-- light of one row. -/
theorem light_one (b : Bool) (t : Int) (k u : ByteArray) (w : World) (h : lightsB [⟨t, k, u⟩] = b) :
    Calls Try.prog 12 #[.slice (some ⟨w.heap.size, 0, none⟩) 1 1] (w.alloc (.cells #[.int .i64 t, .string k, .string u] 46)) fun e w' => e = .returned (.bool b) ∧ Below w.heap.size w w' := by
  have hB : Blk (w.alloc (.cells #[.int .i64 t, .string k, .string u] 46)) w.heap.size 46 #[.int .i64 t, .string k, .string u] := heap_new w _
  refine (light_told b _ [⟨t, k, u⟩] _ ⟨some ⟨w.heap.size, 0, none⟩, 1, rfl, fun _ => ⟨w.heap.size, 0, rfl, by simp, fun j x hj i z hz => ?_⟩⟩ h).mono ?_
  · match j, hj with
    | 0, hj =>
      injection hj with hj
      subst hj
      refine (congrArg (fun q => World.cell? _ ⟨w.heap.size, q, none⟩) (show 0 + 0 * 3 + i = i by omega)).trans (hB.cell i z ?_)
      simpa [RowD.cells] using hz
  · rintro e w' ⟨rfl, hb⟩
    have h0 : Below w.heap.size w (w.alloc (.cells #[.int .i64 t, .string k, .string u] 46)) := (Below.refl _ _).alloc (Nat.le_refl _) _
    exact ⟨rfl, h0.trans (hb.mono h0.size)⟩
end Go.Proofs.Ytajpjffjhnmfmaa
