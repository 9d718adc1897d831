/-
  What the statements of stage 5 begin with: fit, light.
-/
import Derived.Test.YtajpjffjhnmfmaaPSpec
import Derived.Test.YtajpjffjhnmfmaaFree
import Derived.Test.YtajpjffjhnmfmaaRowsIn
namespace Go.Proofs.Ytajpjffjhnmfmaa
open Go.RowKit

set_option linter.unusedSimpArgs false
set_option linter.unusedVariables false

/-- A row's bytes, as a text. -/
def encB (t : Nat) (k v : ByteArray) : ByteArray := ⟨(encL t k.data.toList v.data.toList).toArray⟩
theorem encB_list (t : Nat) (k v : ByteArray) : (encB t k v).data.toList = encL t k.data.toList v.data.toList := arr_list _
theorem encB_ok {t : Nat} {k v : ByteArray} (h : rightB t k v = true) : rowB (encB t k v).data.toList = true ∧ encB t k v ≠ ⟨#[]⟩ := by
  obtain ⟨h1, h2, h3, h4⟩ := rightB_iff.1 h
  have hr : rowB (encB t k v).data.toList = true := by
    rw [encB_list]
    exact rowB_enc t _ _ (by omega) (by rw [size_data]; exact h3) (by rw [size_data]; exact h4)
  refine ⟨hr, fun e => ?_⟩
  rw [e] at hr
  exact absurd (rowB_length hr) (by decide)
/-- Encode of a row, told as what 'string' makes of it. -/
theorem rowenc_str {t : Nat} {k v : ByteArray} (w : World) (h : rightB t k v = true) :
    Calls Try.prog 18 #[.agg #[.int .i64 (t : Int), .string k, .string v]] w fun e w' => ∃ A c, e = .returned (.slice A 40 c) ∧ Below w.heap.size w w' ∧
      (convert 31 9 (.slice A 40 c)).run Try.prog w' = .ok (.string (encB t k v)) w' := by
  refine (encode_yes t k v w h).mono ?_
  rintro e w' ⟨v', rfl, hm, hb⟩
  obtain ⟨h1, h2, h3, h4⟩ := rightB_iff.1 h
  have hl : (encL t k.data.toList v.data.toList).length = 40 := encL_length _ _ _ (by rw [size_data]; exact h3) (by rw [size_data]; exact h4)
  obtain ⟨A, c, rfl⟩ := hm.form
  have hr := hm.rd
  rw [hl] at hr ⊢
  exact ⟨A, c, rfl, hb, conv_rdn hl hr⟩
theorem free_one {E : ByteArray} (h : E ≠ ⟨#[]⟩) : (pZ.set 0 E).freeI [] = 1 ∧ (pZ.set 0 E).freeI [1] = 2 := by
  have h0 (but : List Int) : (pZ.set 0 E).freeB but 0 = false := freeB_full (show E ≠ ⟨#[]⟩ from h)
  refine ⟨free_here (pZ.set 0 E) [] 1 (by omega) (fun j hj => ?_) ?_, free_here (pZ.set 0 E) [1] 2 (by omega) (fun j hj => ?_) ?_⟩
  · obtain rfl : j = 0 := by omega
    exact h0 _
  · exact decide_eq_true (show (⟨#[]⟩ : ByteArray) = ⟨#[]⟩ from rfl) ▸ rfl
  · rcases Nat.lt_or_ge j 1 with hlt | hge
    · obtain rfl : j = 0 := by omega
      exact h0 _
    · obtain rfl : j = 1 := by omega
      exact freeB_but (j := 0) (by simp) rfl
  · exact decide_eq_true (show (⟨#[]⟩ : ByteArray) = ⟨#[]⟩ from rfl) ▸ rfl
theorem free_0 {w : World} {g : Nat} {p : Pg} (h : PgB w g p) : Calls Try.prog 21 #[ptr g, .slice none 0 0] w fun e w' => e = .returned (.int .i64 (p.freeI [])) ∧ w = w' :=
  free_any h (.slice none 0 0) [] (Rd.nil_ _ _ _) (by simp)
theorem free_1 {w : World} {g : Nat} {p : Pg} (h : PgB w g p) (x : Int) : Calls Try.prog 21 #[ptr g, .slice (some ⟨w.heap.size, 0, none⟩) 1 1] (w.alloc (.cells #[.int .i64 x] 3)) fun e w' => e = .returned (.int .i64 (p.freeI [x])) ∧ w.alloc (.cells #[.int .i64 x] 3) = w' :=
  free_any (h.alloc _) _ [x] (Rd.new_ w #[.int .i64 x] 3 (0, 0) rfl rfl (Nat.le_refl _) rfl) (by simp)
/-- The example's row, as a text. -/
def exB : ByteArray := encB 0 ⟨#[107]⟩ ⟨#[]⟩
theorem ex_enc (W : World) : Calls Try.prog 18 #[.agg #[.int .i64 0, .string ⟨#[107]⟩, .string ⟨#[]⟩]] W fun e w' => ∃ A c, e = .returned (.slice A 40 c) ∧ Below W.heap.size W w' ∧
      (convert 31 9 (.slice A 40 c)).run Try.prog w' = .ok (.string exB) w' := rowenc_str (t := 0) (k := ⟨#[107]⟩) (v := ⟨#[]⟩) W (by decide)
theorem ex_row : rowB exB.data.toList = true ∧ exB ≠ ⟨#[]⟩ := encB_ok (t := 0) (k := ⟨#[107]⟩) (v := ⟨#[]⟩) (by decide)
theorem ex_set {w : World} {g : Nat} {p : Pg} (h : PgB w g p) : Calls Try.prog 19 #[ptr g, .int .i64 0, .string exB] w fun e w' => e = .returned (.bool true) ∧ PgB w' g (p.set 0 exB) ∧ w.grownBy w' (some g) := set_row h 0 (by omega) exB ex_row.2 ex_row.1
theorem ex_free_0 {w : World} {g : Nat} (h : PgB w g (pZ.set 0 exB)) : Calls Try.prog 21 #[.pointer (some ⟨g, 0, none⟩), .slice none 0 0] w fun e w' => e = .returned (.int .i64 1) ∧ w = w' := by
  have := free_0 h
  rwa [(free_one ex_row.2).1] at this
theorem ex_free_1 {w : World} {g : Nat} (h : PgB w g (pZ.set 0 exB)) : Calls Try.prog 21 #[.pointer (some ⟨g, 0, none⟩), .slice (some ⟨w.heap.size, 0, none⟩) 1 1] (w.alloc (.cells #[.int .i64 1] 3)) fun e w' => e = .returned (.int .i64 2) ∧ w.alloc (.cells #[.int .i64 1] 3) = w' := by
  have := free_1 h 1
  rwa [(free_one ex_row.2).2] at this
theorem fit_any (w : World) : Calls Try.prog 11 #[] w fun e w' => e = .returned (.bool true) ∧ Below w.heap.size w w' := by
  have P0 := hide (pgb_zero w)
  have hb0 := hide ((Below.refl w.heap.size w).alloc (Nat.le_refl _) (.cells #[.int .u64 0, .int .i64 0, .int .i64 0, .string ⟨#[]⟩, .string ⟨#[]⟩, .string ⟨#[]⟩, .string ⟨#[]⟩, .string ⟨#[]⟩] 35))
  go_enter Try.func11, Try.ntmps11
  go_wp2_with (first
    | (go_at_call 18; (with_reducible refine (ex_enc _).mono ?_); rintro e w1 ⟨A, c, rfl, hb1, hcv⟩; have P1 := hide (P0.out.below hb1); have HB1 := hide (hb0.out.trans (hb1.mono hb0.out.size)); clear hb1)
    | (go_at_call 19; refine (ex_set P1.out).mono ?_; rintro e w2 ⟨rfl, hp2, hg2⟩; have P2 := hide hp2; have HB2 := hide (HB1.out.grown hg2 HB1.out.size (fun k hk => by injection hk with hk; omega)); clear hp2 hg2)
    | (go_at_call 21; (with_reducible refine (ex_free_0 P2.out).mono ?_); rintro e w3 ⟨rfl, rfl⟩)
    | (go_at_call 21; (with_reducible refine (ex_free_1 P2.out).mono ?_); rintro e w3 ⟨rfl, rfl⟩))
  go_ret
  exact ⟨rfl, HB2.out.alloc HB2.out.size _⟩
/-- Are they few and short? (Of texts as long as no machine bears the sum is another one.) -/
def lightR (x : RowD) : Bool := decide (wrap64 ((x.k.size : Int) + (x.v.size : Int)) ≤ 200)
def lightsB (rs : List RowD) : Bool := decide (rs.length ≤ 30) && rs.all lightR
theorem lights_30 {rs : List RowD} (h : lightsB rs = true) : rs.length ≤ 30 := by
  unfold lightsB at h; simp at h; exact h.1
theorem light_any (v : Value) (rs : List RowD) (w : World) (hv : RowRow w w.heap.size v rs) :
    Calls Try.prog 12 #[v] w fun e w' => e = .returned (.bool (lightsB rs)) ∧ Below w.heap.size w w' := by
  by_cases h30 : rs.length ≤ 30
  · have HV := hide hv
    obtain ⟨A, c, rfl, _⟩ := hv
    go_enter Try.func12, Try.ntmps12
    go_wp2
    go_loopg [10] rs.length (fun n i wr => ∃ k : Nat, k + n = rs.length ∧ i = .int .i64 k ∧ Hid (∀ j (h : j < rs.length), j < k → lightR rs[j] = true) ∧ Hid (Below w.heap.size w wr))
    case atStart => exact ⟨0, by omega, rfl, hide (fun j _ hj => absurd hj (by omega)), hide (Below.refl _ _)⟩
    case round =>
      obtain ⟨k, hk, rfl, hal, hb⟩ := hrel
      cases gk with
      | zero =>
        obtain rfl : k = rs.length := by omega
        have hl : lightsB rs = true := by
          unfold lightsB
          rw [Bool.and_eq_true, decide_eq_true_eq, List.all_eq_true]
          refine ⟨h30, fun x hx => ?_⟩
          obtain ⟨j, hj, rfl⟩ := List.getElem_of_mem hx
          exact hal.out j hj hj
        have HL := hide hl
        clear hl
        go_wp2
        go_ret
        rw [HL.out]
        exact ⟨rfl, hb.out⟩
      | succ n =>
        have hkl : k < rs.length := by omega
        obtain ⟨A', c', he, hc⟩ := HV.out.below hb.out
        injection he with e1 e2 e3
        subst e1 e3
        obtain ⟨b, o, rfl, hbB, hcell⟩ := hc (by omega)
        have hx : rs[k]? = some rs[k] := List.getElem?_eq_getElem hkl
        have d0 : wr.cell? ⟨b, o + k * 3, none⟩ = some (.int .i64 rs[k].t) := hcell k _ hx 0 _ rfl
        have d1 : wr.cell? ⟨b, o + k * 3 + 1, none⟩ = some (.string rs[k].k) := hcell k _ hx 1 _ rfl
        have d2 : wr.cell? ⟨b, o + k * 3 + 2, none⟩ = some (.string rs[k].v) := hcell k _ hx 2 _ rfl
        have hkc : (k : Int) < (rs.length : Int) := by omega
        clear hcell hc hx
        have hsz := hide hb.out.size
        by_cases hw : 200 < wrap64 ((rs[k].k.size : Int) + (rs[k].v.size : Int))
        · have hl : lightsB rs = false := by
            rw [← Bool.not_eq_true]
            intro h
            unfold lightsB at h
            rw [Bool.and_eq_true, List.all_eq_true] at h
            have := h.2 rs[k] (List.getElem_mem hkl)
            unfold lightR at this
            rw [decide_eq_true_eq] at this
            omega
          have HL := hide hl
          clear hl
          generalize rs[k] = x at *
          go_wp2
          go_ret
          rw [HL.out]
          exact ⟨rfl, hb.out.alloc hsz.out _⟩
        · have hnx : Hid (∀ j (h : j < rs.length), j < k + 1 → lightR rs[j] = true) := by
            intro j h hj
            rcases Nat.lt_or_ge j k with hlt | hge
            · exact hal.out j h hlt
            · obtain rfl : j = k := by omega
              unfold lightR
              rw [decide_eq_true_eq]
              omega
          generalize rs[k] = x at *
          go_wp2
          go_roundg n
          case rel => exact ⟨k + 1, by omega, by go_num, hnx, hide (hb.out.alloc hsz.out _)⟩
          case measure => omega
  · obtain ⟨A, c, rfl, hc⟩ := hv
    have hl : lightsB rs = false := by simp [lightsB, h30]
    rw [hl]
    go_enter Try.func12, Try.ntmps12
    go_wp2
    go_ret
    exact ⟨rfl, Below.refl _ _⟩
theorem light_told (b : Bool) (v : Value) (rs : List RowD) (w : World) (hv : RowRow w w.heap.size v rs) (h : lightsB rs = b) :
    Calls Try.prog 12 #[v] w fun e w' => e = .returned (.bool b) ∧ Below w.heap.size w w' := by
  subst h
  exact light_any v rs w hv
theorem RowRow.more {w : World} {B B' : Nat} {v : Value} {rs : List RowD} (h : RowRow w B v rs) (hB : B ≤ B') : RowRow w B' v rs := by
  obtain ⟨A, c, rfl, h1⟩ := h
  refine ⟨A, c, rfl, fun hn => ?_⟩
  obtain ⟨b, o, rfl, hb, hc⟩ := h1 hn
  exact ⟨b, o, rfl, by omega, hc⟩
/-- Rows that came in, as a walk bears them. -/
def RIn (w0 w : World) (v : Value) (rs : List RowD) : Prop := RowRow w w.heap.size v rs ∧ Below w0.heap.size w0 w ∧ RowRow w w0.heap.size v rs
theorem RIn.start {w : World} {v : Value} {rs : List RowD} (h : RowRow w w.heap.size v rs) : RIn w w v rs := ⟨h, Below.refl _ _, h⟩
theorem RIn.below {w0 w w' : World} {v : Value} {rs : List RowD} (h : RIn w0 w v rs) (hb : Below w.heap.size w w') : RIn w0 w' v rs := by
  obtain ⟨h1, h2, h3⟩ := h
  have hb' := hb.mono h2.size
  exact ⟨(h3.below hb').more (Nat.le_trans h2.size hb.size), h2.trans hb', h3.below hb'⟩
theorem RIn.row {w0 w : World} {v : Value} {rs : List RowD} (h : RIn w0 w v rs) : RowRow w w.heap.size v rs := h.1
theorem RIn.bel {w0 w : World} {v : Value} {rs : List RowD} (h : RIn w0 w v rs) : Below w0.heap.size w0 w := h.2.1
theorem wf_u64 {n : Int} (h : (Lit.int .u64 n).wf = true) : ∃ m : Nat, n = (m : Int) ∧ m < 18446744073709551616 := by
  simp only [Lit.wf, Bool.and_eq_true, decide_eq_true_eq] at h
  have h1 : IntKind.u64.min = 0 := rfl
  have h2 : IntKind.u64.max = 18446744073709551615 := rfl
  rw [h1, h2] at h
  exact ⟨n.toNat, by omega, by omega⟩
theorem wf_i64 {n : Int} (h : (Lit.int .i64 n).wf = true) : -9223372036854775808 ≤ n ∧ n < 9223372036854775808 := by
  simp only [Lit.wf, Bool.and_eq_true, decide_eq_true_eq] at h
  have h1 : IntKind.i64.min = -9223372036854775808 := rfl
  have h2 : IntKind.i64.max = 9223372036854775807 := rfl
  rw [h1, h2] at h
  omega
end Go.Proofs.Ytajpjffjhnmfmaa
