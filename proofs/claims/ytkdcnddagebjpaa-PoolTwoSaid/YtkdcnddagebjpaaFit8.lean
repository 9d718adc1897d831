/-
  The example at the head of each statement of stage 8.
-/
import Derived.Test.YtkdcnddagebjpaaKept
namespace Go.Proofs.Ytkdcnddagebjpaa
open Go.RowKit
set_option maxRecDepth 20000
set_option linter.unusedSimpArgs false
set_option linter.unusedVariables false

section
variable {w w' : World} {X Y : Nat → Prop} {dg : Nat} {d : Ds} {g q r k gen s : Nat} {all : List Rc} {P : Po} {D : Nat → Pg} {x : Option Nat} {B : List Sec}
theorem frs_check : (frsR [checkR]).length = 11 := by rw [frsR_one, checkR_frame]
/-- The lane, then the pool of a region that was never written. -/
theorem new_lane0 (h : Many w X [(dg, d)]) (hd : DIs d 0 (Rg.new 538) k) (hdn : d.size = 538) (hk : k ≤ 400000) :
    Calls Try.prog 10 #[.pointer (some ⟨dg, 0, none⟩), .int .i64 0] w fun e w' => ∃ g d', e = .returned (.tuple #[.pointer (some ⟨g, 0, none⟩), .int .i64 0]) ∧ ApartP d d' 0 ∧ LaneP w' X dg d' g 0 (k + 700) 1 [checkR] 1 (Rg.new 538).base ∧ Out X w w' := start_lane (r := 0) h (by omega) hd hdn hk
theorem new_pool0 (h : LaneP w X dg d g 0 k 1 [checkR] 1 (Rg.new 538).base) :
    Calls Try.prog 11 #[.pointer (some ⟨dg, 0, none⟩), .int .i64 0, .pointer (some ⟨g, 0, none⟩)] w fun e w' => ∃ q, e = .returned (.pointer (some ⟨q, 0, none⟩)) ∧ PoolT w' X dg d g q 0 k 1 [checkR] 1 (Po.new 0) (pTN 0) none ∧ Below w.heap.size w w' :=
  start_pool (r := 0) h (fun m hm => zero_pages 0 m hm _ (lim_pos _ _))
theorem po_get2 (h : PoolT w X dg d g q r k gen all s P D none) (hk : k ≤ 600000) :
    Calls Try.prog 12 #[.pointer (some ⟨q, 0, none⟩), .int .i64 2] w fun e w' => ∃ b z P' D' s' d', e = .returned (.tuple #[.pointer (some ⟨b, 0, none⟩), .int .i64 0]) ∧ z < 3 ∧ (P'.f z).pb = some b ∧ (P'.f z).num = 2 ∧ Got P D 2 z P' D' ∧ ApartP d d' r ∧ PoolT w' X dg d' g q r (k + 310) gen all s' P' D' none ∧ Out X w w' := po_get h hk (n := 2) (by omega)
theorem po_touch99 (h : PoolT w X dg d g q r k 1 [checkR] s P D none) {z b : Nat} (hz : z < 3) (hb : (P.f z).pb = some b) (hn : (P.f z).num = 2) :
    Calls Try.prog 14 #[.pointer (some ⟨q, 0, none⟩), .int .i64 2, .int .u64 99] w fun e w' => e = .returned (.tuple #[]) ∧ PoolT w' X dg d g q r k 1 [checkR] s (P.set z ((P.f z).touched 99)) D none ∧ Out X w w' :=
  po_touch (n := 2) (m := 99) h hz hb hn (.inl rfl) (by omega) (by unfold lim; omega) (by omega)
theorem po_clean2 (h : PoolT w X dg d g q r k gen all s P D x) {c : Bool} (hc : P.cleanB 2 = c) :
    Calls Try.prog 21 #[.pointer (some ⟨q, 0, none⟩), .int .i64 2] w fun e w' => e = .returned (.bool c) ∧ w = w' := by
  rw [← hc]
  exact po_clean h 2
theorem po_flush2 (h : PoolT w X dg d g q r k gen all s P D none) (hk : k ≤ 600000) :
    Calls Try.prog 15 #[.pointer (some ⟨q, 0, none⟩), .int .i64 2] w fun e w' => ∃ P' D' s' d', e = .returned (.int .i64 0) ∧ Flushed P D 2 P' D' ∧ ApartP d d' r ∧ PoolT w' X dg d' g q r (k + 310) gen all s' P' D' none ∧ Out X w w' := po_flush h hk (n := 2) (by omega)
theorem po_waits0 (h : PoolT w X dg d g q 0 k gen all s P D x) : Calls Try.prog 28 #[.pointer (some ⟨dg, 0, none⟩), .int .i64 0] w fun e w' => e = .returned (.int .i64 0) ∧ w = w' := by
  obtain ⟨l, kv, gr, h1, h2, h3, _⟩ := h
  exact waits_quiet (r := 0) (h1.ln.many.more (Below.refl _ _) (fun k hk => .inl hk)) h2 h3.quiet
theorem seed_zero (w : World) : Calls Try.prog 29 #[.agg #[.int .i64 0, .int .i64 0, .int .i64 0, .int .i64 0, .int .u8 0, .int .u8 0, .int .u8 0, .slice none 0 0]] w fun e w' => ∃ t p s b a i A n c, e = .returned (.agg #[.int .i64 1, .int .i64 t, .int .i64 p, .int .i64 s, .string b, .string a, .string i, .slice A n c]) ∧ Below w.heap.size w w' := by
  refine (seed_any ⟨0, 0, 0, 0, 0, 0, 0, .slice none 0 0, []⟩ none 0 0 w rfl (Rd.nil_ _ _ _)).mono ?_
  rintro e w' ⟨A, c, rfl, h1, h2⟩
  exact ⟨_, _, _, _, _, _, _, _, _, rfl, h2⟩
/-- A record's kind. -/
theorem run_kind (k t p s : Int) (b a i : ByteArray) (A : Option Addr) (n c : Nat) (W : World) : (Instr.field 44 (.agg #[.int .i64 k, .int .i64 t, .int .i64 p, .int .i64 s, .string b, .string a, .string i, .slice A n c]) 0).run Try.prog W = .ok (.int .i64 k) W := by
  simp [go_sem, Instr.field, asAgg]
theorem fit_any (w : World) : Calls Try.prog 8 #[] w fun e w' => e = .returned (.bool true) ∧ Below w.heap.size w w' := by
  have hnew := disk_new1 w
  have hkd := run_kind
  go_enter Try.func8, Try.ntmps8
  go_wp2_with (first
    | (go_at_call 9; ((with_reducible refine hnew.mono ?_); rintro e w1 ⟨dg, d, rfl, hm1, hd1, hdn, hb1⟩; have B1 := hide hb1; have hln := new_lane0 hm1 hd1 hdn (by omega); clear hb1 hm1 hd1 hdn hnew))
    | (go_at_call 10; ((with_reducible refine hln.mono ?_); rintro e w2 ⟨g, d2, rfl, _, hv2, ho2⟩; have O2 := hide ho2; have hpn := new_pool0 hv2; clear hv2 ho2 hln))
    | (go_at_call 11; ((with_reducible refine hpn.mono ?_); rintro e w3 ⟨q, rfl, hp3, hb3⟩; have O3 := hide (O2.out.trans (Out.of_below hb3)); have hgt := po_get2 hp3 (by omega); clear hp3 hb3 hpn))
    | (go_at_call 12; ((with_reducible refine hgt.mono ?_); rintro e w4 ⟨b, z, P4, D4, s4, d4, rfl, hz4, hb4, hn4, _, _, hp4, ho4⟩; have O4 := hide (O3.out.trans ho4); have htc := po_touch99 hp4 hz4 hb4 hn4; have HB4 := hide hb4; have HN4 := hide hn4; clear hp4 ho4 hgt hb4 hn4))
    | (go_at_call 14; ((with_reducible refine htc.mono ?_); rintro e w5 ⟨rfl, hp5, ho5⟩; have O5 := hide (O4.out.trans ho5); have hcl := po_clean2 hp5 (touched_clean hp5 hz4 HB4.out HN4.out rfl); have hfl := po_flush2 hp5 (by omega); clear hp5 ho5 htc))
    | (go_at_call 21; ((with_reducible refine hcl.mono ?_); rintro e w6 ⟨rfl, rfl⟩; clear hcl))
    | (go_at_call 15; ((with_reducible refine hfl.mono ?_); rintro e w7 ⟨P7, D7, s7, d7, rfl, hF7, _, hp7, ho7⟩; have O7 := hide (O5.out.trans ho7); have hcl := po_clean2 hp7 hF7.clean; have hwt := po_waits0 hp7; clear hF7 hp7 ho7 hfl))
    | (go_at_call 28; ((with_reducible refine hwt.mono ?_); rintro e w8 ⟨rfl, rfl⟩; have hsd := seed_zero w7; clear hwt))
    | (go_at_call 29; ((with_reducible refine hsd.mono ?_); rintro e w9 ⟨t9, p9, s9, b9, a9, i9, A9, n9, c9, rfl, hb9⟩; have O9 := hide (O7.out.trans (Out.of_below hb9)); clear hb9 hsd)))
  go_ret
  exact ⟨rfl, B1.out.trans ((O9.out.below B1.out.size (fun k hk => hk)).mono (Nat.le_refl _))⟩
end
end Go.Proofs.Ytkdcnddagebjpaa
