/-
  Contracts of Pop, Back and List.
-/
import Derived.Test.YtkegfedbffhnfaaPush
namespace Go.Proofs.Ytkegfedbffhnfaa
open Go.RowKit Go.Lib
set_option maxRecDepth 100000
set_option linter.unusedSimpArgs false
set_option linter.unusedVariables false

abbrev chZs : Array Value := #[.int .i64 0, .int .i64 0, .string ⟨#[]⟩]
theorem set3_blk {w : World} {g : Nat} {t : TypeId} {a b c d e f : Value} (h : Blk w g t #[a, b, c]) : Blk (((w.setCell ⟨g, 0, none⟩ d).setCell ⟨g, 1, none⟩ e).setCell ⟨g, 2, none⟩ f) g t #[d, e, f] := ((h.set_ 0 d).set_ 1 e).set_ 2 f
theorem Blk.three {w : World} {g : Nat} {t : TypeId} {a b c : Value} (h : Blk w g t #[a, b, c]) : w.cell? ⟨g, 0, none⟩ = some a ∧ w.cell? ⟨g, 1, none⟩ = some b ∧ w.cell? ⟨g, 2, none⟩ = some c ∧ w.frozen? ⟨g, 0, none⟩ = false ∧ w.frozen? ⟨g, 1, none⟩ = false ∧ w.frozen? ⟨g, 2, none⟩ = false := ⟨h.cell 0 _ rfl, h.cell 1 _ rfl, h.cell 2 _ rfl, h.frozen 0, h.frozen 1, h.frozen 2⟩
theorem set3_kept (w : World) (g : Nat) (d e f : Value) : Kept (fun k => k = g) w (((w.setCell ⟨g, 0, none⟩ d).setCell ⟨g, 1, none⟩ e).setCell ⟨g, 2, none⟩ f) :=
  ((Kept.setCell w ⟨g, 0, none⟩ d).trans_same (Kept.setCell _ ⟨g, 1, none⟩ e)).trans_same (Kept.setCell _ ⟨g, 2, none⟩ f)
/-- What Pop leaves of an empty one, or of nil. -/
theorem pop_no {w : World} {v : Value} (hL : ∀ W, Below w.heap.size w W → Calls Try.prog 21 #[v] W fun e w' => e = .returned (.int .i64 0) ∧ W = w') : Calls Try.prog 14 #[v] w fun e w' => e = .returned (.tuple #[.agg chZs, .bool false]) ∧ Below w.heap.size w w' := by
  have hb0 : Below w.heap.size w (w.alloc (.cells #[.int .i64 0, .int .i64 0, .string ⟨#[]⟩] 31)) := (Below.refl _ w).alloc (Nat.le_refl _) _
  have hl := hL _ hb0
  have Z0 : Blk (w.alloc (.cells #[.int .i64 0, .int .i64 0, .string ⟨#[]⟩] 31)) w.heap.size 31 #[.int .i64 0, .int .i64 0, .string ⟨#[]⟩] := heap_new w _
  have HK := hide hb0
  have y0 := Z0.cell 0 _ rfl
  have y1 := Z0.cell 1 _ rfl
  have y2 := Z0.cell 2 _ rfl
  clear Z0 hb0 hL
  go_enter Try.func14, Try.ntmps14
  go_wp2_with (go_at_call 21; (with_reducible refine hl.mono ?_); rintro e w1 ⟨rfl, rfl⟩)
  refine bodyPost_ret (v := .tuple #[.agg chZs, .bool false]) (by simp [results, Try.results14, go_sem, y0, y1, y2]) rfl ⟨rfl, HK.out⟩
theorem pop_nil (w : World) : Calls Try.prog 14 #[.pointer none] w fun e w' => e = .returned (.tuple #[.agg chZs, .bool false]) ∧ Below w.heap.size w w' := pop_no (fun W _ => len_nil_x W)
section
variable {w : World} {x : Nat} {A B : Value} {t : Tx}
theorem pop_none (h : TxP layT w x A B t) (h0 : t.l = []) : Calls Try.prog 14 #[.pointer (some ⟨x, 0, none⟩)] w fun e w' => e = .returned (.tuple #[.agg chZs, .bool false]) ∧ Below w.heap.size w w' := pop_no (fun W hb => by
  have := len_x (h.below hb)
  rw [h0] at this
  exact this)
theorem pop_x {i : Nat} {ch : Ch} (h : TxP layT w x A B t) (hl : t.l.length ≤ 100000) (hi : t.l.length = i + 1) (hc : t.l[i]? = some ch) :
    Calls Try.prog 14 #[.pointer (some ⟨x, 0, none⟩)] w fun e w' => e = .returned (.tuple #[.agg ch.vc, .bool true]) ∧ TxQ layT w w' x A B ⟨t.l.take i, t.ops, t.sv⟩ := by
  obtain ⟨g, cA, rfl, hgl⟩ := h.l.block (by omega)
  obtain ⟨p, s, b⟩ := ch
  have hb0 : Below w.heap.size w (w.alloc (.cells #[.int .i64 0, .int .i64 0, .string ⟨#[]⟩] 31)) := (Below.refl _ w).alloc (Nat.le_refl _) _
  have hb1 : Below w.heap.size w ((w.alloc (.cells #[.int .i64 0, .int .i64 0, .string ⟨#[]⟩] 31)).alloc (.cells #[.int .i64 p, .int .i64 s, .string b] 31)) := hb0.alloc (by simp) _
  have hL := len_x (h.below hb0)
  have h1 := h.below hb1
  have hD := delete_last h1.l hl hi
  have k0 := (h.below hb0).cells.1
  have k1 := h1.cells.1
  have r0 := (h.below hb0).l.cells hc 0 (.int .i64 p) rfl
  have r1 := (h.below hb0).l.cells hc 1 (.int .i64 s) rfl
  have r2 := (h.below hb0).l.cells hc 2 (.string b) rfl
  have r0 : (w.alloc (.cells #[.int .i64 0, .int .i64 0, .string ⟨#[]⟩] 31)).cell? ⟨g, i * 3, none⟩ = some (.int .i64 p) := r0
  have r1 : (w.alloc (.cells #[.int .i64 0, .int .i64 0, .string ⟨#[]⟩] 31)).cell? ⟨g, i * 3 + 1, none⟩ = some (.int .i64 s) := r1
  have r2 : (w.alloc (.cells #[.int .i64 0, .int .i64 0, .string ⟨#[]⟩] 31)).cell? ⟨g, i * 3 + 2, none⟩ = some (.string b) := r2
  have Z0 : Blk ((w.alloc (.cells #[.int .i64 0, .int .i64 0, .string ⟨#[]⟩] 31)).alloc (.cells #[.int .i64 p, .int .i64 s, .string b] 31)) w.heap.size 31 #[.int .i64 0, .int .i64 0, .string ⟨#[]⟩] := (show Blk (w.alloc (.cells #[.int .i64 0, .int .i64 0, .string ⟨#[]⟩] 31)) w.heap.size 31 #[.int .i64 0, .int .i64 0, .string ⟨#[]⟩] from heap_new w _).alloc _
  have Z1 : Blk ((w.alloc (.cells #[.int .i64 0, .int .i64 0, .string ⟨#[]⟩] 31)).alloc (.cells #[.int .i64 p, .int .i64 s, .string b] 31)) (w.heap.size + 1) 31 #[.int .i64 p, .int .i64 s, .string b] := Blk.new_ _ _ _ (by simp)
  have HH := hide h
  have H1 := hide h1
  have HD := hide hD
  have HZ0 := hide Z0
  have HZ1 := hide Z1
  have HB := hide hb1
  have HGL := hide hgl
  have HTL : Hid ((t.l.take i).length = i) := hide (by rw [List.length_take]; omega)
  have e0 : (t.l.length : Int) - 1 = (i : Int) := by omega
  have q0 : (0 : Int) ≤ (i : Int) := by omega
  have q1 : (i : Int) < (t.l.length : Int) := by omega
  have q2 : ¬ (t.l.length : Int) = 0 := by omega
  have q3 : (i : Int) ≤ 100000 := by omega
  have hxl := h.blk.lt
  have HXL := hide hxl
  clear h hb0 h1 hD Z0 Z1 hb1 hl hi hc hxl hgl
  go_enter Try.func14, Try.ntmps14
  go_wp2_with (first
    | (go_at_call 21; (with_reducible refine hL.mono ?_); rintro e w1 ⟨rfl, rfl⟩)
    | (go_at_call 26; (with_reducible refine HD.out.mono ?_); rintro e w5 ⟨v', rfl, hr, hk, hn⟩; obtain ⟨An, cn, en⟩ := hr.form; rw [HTL.out] at en; subst en; obtain ⟨hp3, hk3, hn3⟩ := H1.out.lSet hk hr (fun k e => .inl (hn k e)); have HP3 := hide hp3; have HK3 := hide hk3; have HN3 := hide hn3; have hb5 := hk.blk H1.out.blk (fun e => H1.out.ax x e rfl); have x0 : w5.cell? ⟨x, 0, none⟩ = some (.slice (some ⟨g, 0, none⟩) t.l.length cA) := hb5.cell 0 _ rfl; have xf := hb5.frozen 0; have Y0 := hide ((hk.blk HZ0.out (fun e => by have := HGL.out; have e2 : g = w.heap.size := Option.some.inj e; omega)).far (p := ⟨x, 0, none⟩) (by show w.heap.size ≠ x; have := HXL.out; omega) (.slice An i cn)); have Y1 := hide ((hk.blk HZ1.out (fun e => by have := HGL.out; have e2 : g = w.heap.size + 1 := Option.some.inj e; omega)).far (p := ⟨x, 0, none⟩) (by show w.heap.size + 1 ≠ x; have := HXL.out; omega) (.slice An i cn)); obtain ⟨y0, y1, y2, f0, f1, f2⟩ := Y0.out.three; obtain ⟨u0, u1, u2, _⟩ := Y1.out.three; clear hr hk hn hp3 hk3 hn3 hb5))
  have z0 := set3_blk (d := .int .i64 p) (e := .int .i64 s) (f := .string b) Y0.out
  obtain ⟨z0, z1, z2, _⟩ := z0.three
  refine bodyPost_ret (v := .tuple #[.agg #[.int .i64 p, .int .i64 s, .string b], .bool true]) (by simp [results, Try.results14, go_sem, z0, z1, z2]) rfl ⟨rfl, ?_⟩
  have hs1 := HB.out.size
  refine ⟨((Kept.of_below HB.out).trans HK3.out (fun k hk => .inl hk)).trans (set3_kept _ _ _ _ _) (fun k e => .inr (by omega)), .slice An i cn, B, HP3.out.keep (set3_kept _ _ _ _ _) (fun k hk e => ?_), fun k hk => (HN3.out k hk).imp id (fun h => Nat.le_trans hs1 h)⟩
  rcases HN3.out k hk with h1 | h1
  · have := HH.out.lt k h1
    omega
  · have : w.heap.size + 2 ≤ k := by simpa using h1
    omega
/-- Is there such a savepoint? -/
theorem back_no (h : TxP layT w x A B t) (n : Int) (hn : n < 1 ∨ (t.sv.length : Int) < n) : Calls Try.prog 16 #[.pointer (some ⟨x, 0, none⟩), .int .i64 n] w fun e w' => e = .returned (.tuple #[.int .i64 0, .bool false]) ∧ w = w' := by
  obtain ⟨Bb, cb, rfl⟩ := h.s.form
  have c2 : w.cell? ⟨x, 2, none⟩ = some (.slice Bb t.sv.length cb) := h.cells.2.2
  clear h
  by_cases h1 : n < 1
  · clear hn
    go_enter Try.func16, Try.ntmps16
    go_wp2
    go_ret2
    exact ⟨rfl, rfl⟩
  · have h2 : (t.sv.length : Int) < n := by omega
    clear hn
    go_enter Try.func16, Try.ntmps16
    go_wp2
    go_ret2
    exact ⟨rfl, rfl⟩
theorem back_nil (n : Int) (w : World) : Calls Try.prog 16 #[.pointer none, .int .i64 n] w fun e w' => e = .returned (.tuple #[.int .i64 0, .bool false]) ∧ w = w' := by
  go_enter Try.func16, Try.ntmps16
  go_wp2
  go_ret2
  exact ⟨rfl, rfl⟩
theorem back_x (h : TxP layT w x A B t) {m i u : Nat} (hm : m = i + 1) (hml : m ≤ t.sv.length) (hu : t.sv[i]? = some u) :
    Calls Try.prog 16 #[.pointer (some ⟨x, 0, none⟩), .int .i64 (m : Int)] w fun e w' => e = .returned (.tuple #[.int .i64 (u : Int), .bool true]) ∧ TxQ layT w w' x A B ⟨t.l, t.ops, t.sv.take m⟩ := by
  obtain ⟨g, cb, cur, rfl, hgl, hcap, hcm, _⟩ := h.s.open (by omega)
  have q4 : (i : Int) ≤ 9223372036854775807 := by unfold maxLen at hcm; omega
  have c2 : w.cell? ⟨x, 2, none⟩ = some (.slice (some ⟨g, 0, none⟩) t.sv.length cb) := h.cells.2.2
  have cf := h.blk.frozen 2
  have hs := fun W => run_lowK numK (some ⟨g, 0, none⟩) t.sv.length cb m (by omega) W
  have hs : ∀ W, (Instr.slice 36 (.slice (some ⟨g, 0, none⟩) t.sv.length cb) none (some (.int .i64 (m : Int))) none).run Try.prog W = .ok (.slice (some ⟨g, 0, none⟩) m cb) W := hs
  obtain ⟨hp3, hk3, hn3⟩ := h.sSet (Kept.refl _ w) (h.s.low hml) (fun k e => .inl e)
  have x2 : (w.setCell ⟨x, 2, none⟩ (.slice (some ⟨g, 0, none⟩) m cb)).cell? ⟨x, 2, none⟩ = some (.slice (some ⟨g, 0, none⟩) m cb) := hp3.cells.2.2
  have r0 : (w.setCell ⟨x, 2, none⟩ (.slice (some ⟨g, 0, none⟩) m cb)).cell? ⟨g, i * 1 + 0, none⟩ = some (.int .i64 (u : Int)) := hp3.s.cells (by rw [List.getElem?_take, if_pos (by omega)]; exact hu) 0 _ rfl
  rw [Nat.mul_one, Nat.add_zero] at r0
  have HQ : Hid (TxQ layT w (w.setCell ⟨x, 2, none⟩ (.slice (some ⟨g, 0, none⟩) m cb)) x A (.slice (some ⟨g, 0, none⟩) t.sv.length cb) ⟨t.l, t.ops, t.sv.take m⟩) := hide ⟨hk3, A, _, hp3, hn3⟩
  have e0 : (m : Int) - 1 = (i : Int) := by omega
  have q0 : (0 : Int) ≤ (i : Int) := by omega
  have q1 : (i : Int) < (m : Int) := by omega
  have q2 : ¬ (m : Int) < 1 := by omega
  have q3 : ¬ (t.sv.length : Int) < (m : Int) := by omega
  clear hm hml hu hp3 hk3 hn3 h hcap hgl hcm
  go_enter Try.func16, Try.ntmps16
  go_wp2
  go_ret2
  exact ⟨rfl, HQ.out⟩
theorem list_nil (w : World) : Calls Try.prog 24 #[.pointer none] w fun e w' => e = .returned (.slice none 0 0) ∧ w = w' := by
  go_enter Try.func24, Try.ntmps24
  go_wp2
  go_ret
  exact ⟨rfl, rfl⟩
theorem list_x (h : TxP layT w x A B t) (hl : t.l.length ≤ 100000) : Calls Try.prog 24 #[.pointer (some ⟨x, 0, none⟩)] w fun e w' => ∃ v', e = .returned v' ∧ chK.Row w' v' t.l ∧ Below w.heap.size w w' ∧ ∀ k, v'.ownBlock = some k → w.heap.size ≤ k := by
  obtain ⟨Aa, c, rfl⟩ := h.l.form
  obtain ⟨s1, s2⟩ := h.l.src
  have hC := clone_src (c := c) s1 s2 hl
  have c0 := h.cells.1
  clear h s1 s2 hl
  go_enter Try.func24, Try.ntmps24
  go_wp2_with (go_at_call 28; (with_reducible refine hC.mono ?_); rintro e w1 ⟨v', rfl, h1, h2, h3⟩; have H1 := hide h1; have H2 := hide h2; have H3 := hide h3; clear h1 h2 h3)
  go_ret
  exact ⟨v', rfl, H1.out, H2.out, H3.out⟩
end
end Go.Proofs.Ytkegfedbffhnfaa
