/-
  The law's own 'sorted': a map's items as an ordered list.
-/
import Derived.Test.YtkcomkllnhdohaaName
import Derived.Maps.RangeWalk
import Derived.Deep.QuietTactic
import Derived.BigQuiet
namespace Go.Proofs.Ytkcomkllnhdohaa
open Go.RowKit
set_option linter.unusedSimpArgs false
set_option linter.unusedVariables false

/-- The same memory. -/
structure Heaps (W w : World) : Prop where
  heap : w.heap = W.heap
  os : w.os = W.os
  tape : w.tape = W.tape
  output : w.output = W.output
theorem Heaps.refl (W : World) : Heaps W W := ⟨rfl, rfl, rfl, rfl⟩
theorem Heaps.drew (W : World) : Heaps W W.drew := ⟨rfl, rfl, rfl, rfl⟩
theorem Heaps.below {W w : World} (h : Heaps W w) : Below W.heap.size W w := ⟨h.os, h.tape, h.output, by rw [h.heap]; exact Nat.le_refl _, fun k _ => by rw [h.heap]⟩
theorem Heaps.its {T : TypeId} {W w : World} {B : Nat} {v : Value} {es : List It} (h : Heaps W w) (hi : Its T W B v es) : Its T w B v es := hi.below h.below
theorem Heaps.setCell {W w : World} (h : Heaps W w) (p : Addr) (u : Value) : Heaps (W.setCell p u) (w.setCell p u) :=
  ⟨by unfold World.setCell; simp only [h.heap], h.os, h.tape, h.output⟩
theorem Heaps.set5 {W w : World} (h : Heaps W w) (g o : Nat) (x : It) : Heaps (Go.Proofs.Ytkcomkllnhdohaa.set5 W g o x) (Go.Proofs.Ytkcomkllnhdohaa.set5 w g o x) := ((((h.setCell _ _).setCell _ _).setCell _ _).setCell _ _).setCell _ _
/-- Within the inner loop: item x on its way down. -/
structure SI (w : World) (b n : Nat) (f : ByteArray → Option It) (c : Nat) (left : ByteArray → Bool) (cnt g cap : Nat) (ys : List It) (x : It) (q : Nat) (W : World) : Prop where
  its : Its 32 W (w.heap.size + 1) (.slice (some ⟨g, 0, none⟩) (ys.length + 1) cap) (ys.take q ++ x :: ys.drop q)
  rg : RangeS It.v W b w.heap.size n f c left cnt
  bel : Below w.heap.size w W
  hb : b < w.heap.size
  sz : w.heap.size + 1 ≤ W.heap.size
theorem SI.len {w : World} {b n c cnt g cap q : Nat} {f : ByteArray → Option It} {left : ByteArray → Bool} {ys : List It} {x : It} {W : World} (h : SI w b n f c left cnt g cap ys x q W) : ys.length + 1 = (ys.take q ++ x :: ys.drop q).length := by
  rw [List.length_append, List.length_cons, List.length_take, List.length_drop]
  omega
theorem SI.heaps {w : World} {b n c cnt g cap q : Nat} {f : ByteArray → Option It} {left : ByteArray → Bool} {ys : List It} {x : It} {W W' : World} (h : SI w b n f c left cnt g cap ys x q W) (hh : Heaps W W') : SI w b n f c left cnt g cap ys x q W' :=
  ⟨hh.its h.its, h.rg.below hh.below, h.bel.trans (hh.below.mono h.bel.size), h.hb, by rw [hh.heap]; exact h.sz⟩
/-- What x meets there: itself, and the one ahead of it. -/
theorem mid_at {ys : List It} {x a : It} {p : Nat} (hp : ys[p]? = some a) : (ys.take (p + 1) ++ x :: ys.drop (p + 1))[p]? = some a ∧ (ys.take (p + 1) ++ x :: ys.drop (p + 1))[p + 1]? = some x := by
  have hlt : p < ys.length := (List.getElem?_eq_some_iff.1 hp).1
  have hl : (ys.take (p + 1)).length = p + 1 := by rw [List.length_take]; omega
  constructor
  · rw [List.getElem?_append_left (by omega), List.getElem?_take, if_pos (by omega)]
    exact hp
  · rw [List.getElem?_append_right (by omega), hl, Nat.sub_self]
    rfl
/-- An exchange. -/
theorem SI.swap {w : World} {b n c cnt g cap p : Nat} {f : ByteArray → Option It} {left : ByteArray → Bool} {ys : List It} {x a : It} {W : World} (h : SI w b n f c left cnt g cap ys x (p + 1) W) (hp : ys[p]? = some a) :
    SI w b n f c left cnt g cap ys x p (set5 (set5 W g ((p + 1) * 5) a) g (p * 5) x) := by
  have hlt : p < ys.length := (List.getElem?_eq_some_iff.1 hp).1
  obtain ⟨m0, m1⟩ := mid_at (x := x) hp
  have i1 := Its.put h.its h.len (j := p + 1) (by rw [← h.len]; omega) a
  have i2 := Its.put i1 (by rw [List.length_set]; exact h.len) (j := p) (by rw [List.length_set, ← h.len]; omega) x
  have hgw := (Its.lt h.its g rfl).1
  have k1 := set5_kept W g ((p + 1) * 5) a
  have k2 := set5_kept (set5 W g ((p + 1) * 5) a) g (p * 5) x
  have hk := k1.trans_same k2
  rw [List.set_comm _ _ (by omega), swap_down hlt hp] at i2
  have hbw := h.rg.owns.lt
  have hrw := h.rg.lt
  exact ⟨i2, h.rg.same (hk.block b hbw (by have := h.hb; omega)) (hk.block _ hrw (by omega)), h.bel.trans (hk.below h.bel.size (by intro k e; omega)), h.hb, Nat.le_trans h.sz hk.size⟩

/-- On the way: what has come is in order. -/
structure SO (w : World) (b n : Nat) (f : ByteArray → Option It) (c : Nat) (left : ByteArray → Bool) (cnt : Nat) (v : Value) (ys : List It) (W : World) : Prop where
  its : Its 32 W (w.heap.size + 1) v ys
  rg : RangeS It.v W b w.heap.size n f c left cnt
  bel : Below w.heap.size w W
  hb : b < w.heap.size
  sz : w.heap.size + 1 ≤ W.heap.size
  srt : Srt ys
  mem : ∀ x, x ∈ ys ↔ f (nm x) = some x ∧ left (nm x) = false
  few : ys.length ≤ c
theorem Its.low {T : TypeId} {w : World} {B B' : Nat} {v : Value} {es : List It} (h : Its T w B v es) (hb : B' ≤ B) : Its T w B' v es := by
  refine ⟨h.1, h.2.imp id ?_⟩
  rintro ⟨g, cap, cur, e, h1, h2⟩
  exact ⟨g, cap, cur, e, Nat.le_trans hb h1, h2⟩
open Classical in
theorem tie_few {f : ByteArray → Option It} {c : Nat} {xs ys : List It} (tie : TieI f c xs) (hs : Srt ys) (hm : ∀ x ∈ ys, f (nm x) = some x) : ys.length ≤ c := by
  have hsub : ∀ x ∈ ys, x ∈ xs := fun x hx => (tie.mem x).2 (hm x hx)
  have e : xs.filter (fun a => decide (a ∈ ys)) = ys := srt_eq (srt_filter tie.srt _) hs (fun x => by
    rw [List.mem_filter, decide_eq_true_eq]
    exact ⟨fun h => h.2, fun h => ⟨hsub x h, h⟩⟩)
  rw [← tie.len, ← e]
  exact List.length_filter_le _ _
theorem so_next {w W : World} {b n c cnt g cap q : Nat} {f : ByteArray → Option It} {left left2 : ByteArray → Bool} {xs ys : List It} {x : It} {s : ByteArray} (tie : TieI f c xs) (hs : Srt ys) (hm : ∀ x, x ∈ ys ↔ f (nm x) = some x ∧ left (nm x) = false) (hx : nm x = s ∧ x.In) (hf : f s = some x) (hl : left s = true)
    (hl2 : left2 = fun z => left z && !decide (z = s)) (hin : ys.take q ++ x :: ys.drop q = ins x ys) (h : SI w b n f c left2 cnt g cap ys x q W) : SO w b n f c left2 cnt (.slice (some ⟨g, 0, none⟩) (ys.length + 1) cap) (ins x ys) W := by
  have hsr : Srt (ins x ys) := srt_ins hs (fun a ha hsame => by
    obtain ⟨h1, h2⟩ := (hm a).1 ha
    have h3 := (tie.key _ _ h1).2
    rw [(nm_same h3 hx.2).2 hsame, hx.1, hl] at h2
    cases h2)
  have hmem : ∀ z, z ∈ ins x ys ↔ f (nm z) = some z ∧ left2 (nm z) = false := fun z => by
    rw [mem_ins, hm, hl2]
    simp only [Bool.and_eq_false_iff, Bool.not_eq_false', decide_eq_true_eq]
    constructor
    · rintro (rfl | ⟨h1, h2⟩)
      · exact ⟨by rw [hx.1]; exact hf, .inr hx.1⟩
      · exact ⟨h1, .inl h2⟩
    · rintro ⟨h1, h2 | h2⟩
      · exact .inr ⟨h1, h2⟩
      · rw [h2, hf] at h1
        exact .inl (Option.some.inj h1).symm
  have hi := h.its
  rw [hin] at hi
  exact ⟨hi, h.rg, h.bel, h.hb, h.sz, hsr, hmem, tie_few tie hsr (fun z hz => ((hmem z).1 hz).1)⟩

set_option maxRecDepth 100000 in
set_option maxHeartbeats 8000000 in
theorem sorted_any {w : World} {b n c : Nat} {f : ByteArray → Option It} {xs : List It} (hm : MapS It.v w b n f c) (tie : TieI f c xs) (hc : c ≤ 200) : Calls Try.prog 17 #[.map (some b)] w fun e w' => ∃ v, e = .returned v ∧ Its 32 w' w.heap.size v xs ∧ Below w.heap.size w w' := by
  have HM := hide hm
  have TIE := hide tie
  have HC := hide hc
  have HBW := hide hm.lt
  clear hm tie hc
  go_enter Try.func17, Try.ntmps17
  go_wp2_with (at_range; refine wpList_range_S w rfl _ 28 rfl 32 Try.underlying28 b n f c rfl HM.out ?_; intro w0 hrg hb0 hs0; have SO0 : Hid (SO w b n f c (fun s => (f s).isSome) c (.slice none 0 0) [] w0) := hide ⟨Its.nil _ _ _, hrg, hb0, HBW.out, by omega, List.Pairwise.nil, fun x => ⟨fun h => (by cases h), fun h => by have h1 := h.2; have h2 := h.1; rw [h2] at h1; cases h1⟩, Nat.zero_le _⟩; clear hrg hb0 hs0)
  go_frame
  go_loopw [3] (fun v wr => ∃ (left : ByteArray → Bool) (cnt : Nat) (ys : List It), Hid (SO w b n f c left cnt v ys wr)) (fun _ wr => wr.rangeLeft b w.heap.size)
  case atStart => exact ⟨_, _, _, SO0⟩
  case round =>
    obtain ⟨left, cnt, ys, hso⟩ := hrel
    go_wp2_with (at_next; refine wpList_next_S wr rfl _ rfl b w.heap.size n f c left cnt rfl hso.out.rg ?_ ?_)
    · intro h0 hl
      have HE : Hid (ys = xs) := hide (TIE.out.one (c' := 0) hso.out.srt (fun x => by rw [hso.out.mem, hl]; simp))
      clear hl h0
      go_wp2
      go_ret
      exact ⟨_, rfl, by rw [← HE.out]; exact (hso.out.its.low (by omega)), hso.out.bel⟩
    · intro s x w1 cnt' hs hf hl hrg hlt hk hsz hen
      have hx := TIE.out.key s x hf
      obtain ⟨left2, hl2⟩ : ∃ L : ByteArray → Bool, L = (fun z => left z && !decide (z = s)) := ⟨_, rfl⟩
      rw [← hl2] at hrg
      have HL2 := hide hl2
      clear hl2
      have hys9 : (ys.length : Int) + 1 ≤ 9223372036854775807 := by have := hso.out.few; have := HC.out; omega
      have hits1 : Its 32 w1 (w.heap.size + 1) u3 ys := hk.own hso.out.its (fun k hk2 e => by have h1 := (hso.out.its.lt k hk2).1; omega)
      have hbel1 := hso.out.bel.trans (hk.below (B := w.heap.size) hso.out.bel.size (fun k e => by omega))
      have hbA : Below w1.heap.size w1 ((w1.alloc (.cells x.vc 32)).alloc (.cells x.vc 32)) := ((Below.refl _ _).alloc (Nat.le_refl _) _).alloc (by simp) _
      have hbx : Blk ((w1.alloc (.cells x.vc 32)).alloc (.cells x.vc 32)) (w1.heap.size + 1) 32 x.vc := heap_at _ _ (by simp)
      have HITS := hide (hits1.below hbA)
      have HRG := hide (hrg.below hbA)
      have HCX : Hid (∀ i u, x.cells[i]? = some u → ((w1.alloc (.cells x.vc 32)).alloc (.cells x.vc 32)).cell? ⟨w1.heap.size + 1, i, none⟩ = some u) := hide (fun i u hi => hbx.cell i u (by rw [← hi, ← Array.getElem?_toList]; rfl))
      have HBEL := hide (hbel1.trans (hbA.mono (by rw [hsz]; exact hso.out.bel.size)))
      have HFEW := hide (show ys.length ≤ 200 from Nat.le_trans hso.out.few HC.out)
      have HSZ := hide (show w.heap.size + 1 ≤ ((w1.alloc (.cells x.vc 32)).alloc (.cells x.vc 32)).heap.size by have := hso.out.sz; simp; omega)
      have HX := hide hx
      have HF := hide hf
      have HL := hide hl
      have HLT := hide (show cnt' < wr.rangeLeft b w.heap.size by rw [hso.out.rg.left_eq]; exact hlt)
      clear hx hits1 hbel1 hbA hbx hrg hk hsz hs hf hl hlt
      unfold It.v at hen
      unfold It.v
      unfold It.vc at HITS HRG HCX HBEL HSZ
      go_wp2_with (at_builtin; refine wpList_append_it rfl (.tmp 13) (.tmp 15) rfl Try.underlying25 infoI rfl (by decide) rfl HITS.out (by have := HFEW.out; omega) HSZ.out rfl HCX.out ?_; intro v' w3 h1 h2 h3; obtain ⟨g, cap, rfl, hg1, hg2⟩ := h1.block (by simp); have H1 := hide h1; have H2 := hide h2; clear h1 h2 h3 hg1 hg2)
      have hSI : SI w b n f c left2 cnt' g cap ys x ys.length w3 := by
        have h1 := H1.out
        have h2 := H2.out
        have hk3 := Kept.of_grown h2
        have hov := hso.out.its.lt
        rw [show (ys ++ [x]).length = ys.length + 1 by simp] at h1
        have hbw := HRG.out.owns.lt
        have hrw := HRG.out.lt
        refine ⟨?_, HRG.out.same (hk3.block b hbw (fun e => by have h5 := (hov b e).1; have := HBW.out; omega)) (hk3.block _ hrw (fun e => by have h5 := (hov _ e).1; omega)), HBEL.out.trans (hk3.below (B := w.heap.size) HBEL.out.size (fun k e => by have h5 := (hov k e).1; omega)), HBW.out, Nat.le_trans HSZ.out hk3.size⟩
        rw [List.take_length, List.drop_length]
        exact h1
      have HSI := hide hSI
      have HSO := hide (show Srt ys ∧ (∀ x, x ∈ ys ↔ f (nm x) = some x ∧ left (nm x) = false) from ⟨hso.out.srt, hso.out.mem⟩)
      clear hSI H1 H2 HITS HRG HCX HBEL HSZ hso
      generalize w3 = wi at *
      go_loopw [6] (fun k wq => ∃ q : Nat, q ≤ ys.length ∧ k = .int .i64 q ∧ Hid (∀ a ∈ ys.drop q, itB x a = true) ∧ Hid (SI w b n f c left2 cnt' g cap ys x q wq)) (fun k _ => (intOf k).toNat)
      case atStart => exact ⟨ys.length, Nat.le_refl _, by first | rfl | go_num | simp, hide (fun a h => by rw [List.drop_length] at h; cases h), HSI⟩
      case round =>
        obtain ⟨q, hq, rfl, hd, hsi⟩ := hrel
        cases q with
        | zero =>
          have hin : Hid (ys.take 0 ++ x :: ys.drop 0 = ins x ys) := hide (ins_here HSO.out.1 (Nat.zero_le _) hd.out (fun a h => absurd h (by omega)))
          go_wp2
          go_quiet (fail)
          go_wp2
          have hso2 : Hid (SO w b n f c left2 cnt' (.slice (some ⟨g, 0, none⟩) (ys.length + 1) cap) (ins x ys) (wr.drewN nq)) := hide (so_next TIE.out HSO.out.1 HSO.out.2 HX.out HF.out HL.out HL2.out hin.out (hsi.out.heaps ⟨rfl, rfl, rfl, rfl⟩))
          go_roundw
          case rel => exact ⟨_, _, _, hso2⟩
          case measure => rw [hso2.out.rg.left_eq]; exact HLT.out
        | succ p =>
          obtain ⟨z, ha⟩ : ∃ z, ys[p]? = some z := ⟨_, List.getElem?_eq_getElem (by omega)⟩
          obtain ⟨m0, m1⟩ := mid_at (x := x) ha
          obtain ⟨a0, a1, a2, a3, a4⟩ := Its.cells hsi.out.its hsi.out.len m0
          obtain ⟨x0, x1, x2, x3, x4⟩ := Its.cells hsi.out.its hsi.out.len m1
          have HAT := hide ha
          clear ha m0 m1
          have q0 : (0 : Int) ≤ (p : Int) + 1 := by omega
          have q1 : (p : Int) < (ys.length : Int) := by omega
          have q2 : (0 : Int) < (p : Int) + 1 := by omega
          have q3 : ((p : Int) + 1).toNat = p + 1 := by omega
          have q5 : (p : Int) < (ys.length : Int) + 1 := by omega
          have q6 : (p : Int) + 1 < (ys.length : Int) + 1 := by omega
          have hw1 : IntKind.i64.wrap ((p : Int) + 1 - 1) = (p : Int) := by rw [IntKind.wrap_i64]; omega
          have hw2 : IntKind.i64.wrap (p : Int) = (p : Int) := by rw [IntKind.wrap_i64]; omega
          by_cases ht : x.t < z.t
          · have hB : itB x z = true := itB_iff.2 (.inl ht)
            have hd1 : decide (x.t < z.t) = true := by simpa using ht
            clear ht
            have hB2 := hide hB
            clear hB
            go_wp2
            go_quiet (fail)
            have hsiW := hsi.out.heaps (W' := wr.drewN nq) ⟨rfl, rfl, rfl, rfl⟩
            generalize wr.drewN nq = W at hsiW ⊢
            obtain ⟨m0, m1⟩ := mid_at (x := x) HAT.out
            have HI := hide hsiW.its
            have HN := hide hsiW.len
            have HLa := hide m0
            have HLx := hide m1
            have HI2 := hide (Its.put hsiW.its hsiW.len (j := p + 1) (by rw [← hsiW.len]; omega) z)
            have HN2 : Hid (ys.length + 1 = ((ys.take (p + 1) ++ x :: ys.drop (p + 1)).set (p + 1) z).length) := hide (by rw [List.length_set]; exact hsiW.len)
            have HLa2 : Hid (((ys.take (p + 1) ++ x :: ys.drop (p + 1)).set (p + 1) z)[p]? = some z) := hide (by rw [List.getElem?_set_ne (by omega)]; exact m0)
            have HSW := hide hsiW
            have HDN : Hid (∀ b ∈ ys.drop p, itB x b = true) := hide (fun b hb => by
              rw [List.drop_eq_getElem_cons (by omega)] at hb
              rcases List.mem_cons.1 hb with rfl | hb
              · have e := List.getElem?_eq_getElem (show p < ys.length by omega)
                rw [HAT.out] at e
                rw [← Option.some.inj e]
                exact hB2.out
              · exact hd.out b hb)
            clear hsiW m0 m1 a0 a1 a2 a3 a4 x0 x1 x2 x3 x4
            go_wp2
            refine region_phases (ops := _) (valV [some (.slice (some ⟨g, 0, none⟩) (ys.length + 1) cap), some (.int .i64 ((p + 1 : Nat) : Int)), some (.slice (some ⟨g, 0, none⟩) (ys.length + 1) cap), some (.int .i64 ((p + 1 : Nat) : Int)), some (.int .i64 (p : Int)), some (.slice (some ⟨g, 0, none⟩) (ys.length + 1) cap), some (.int .i64 ((p + 1 : Nat) : Int)), some (.int .i64 (p : Int)), some (.pointer (some ⟨g, p * 5, none⟩)), some (.agg #[.int .i64 z.t, .string z.key, .string z.val, .int .i64 z.p, .int .i64 z.s]), some (.slice (some ⟨g, 0, none⟩) (ys.length + 1) cap), some (.int .i64 ((p + 1 : Nat) : Int)), some (.pointer (some ⟨g, (p + 1) * 5, none⟩)), some (.agg #[.int .i64 x.t, .string x.key, .string x.val, .int .i64 x.p, .int .i64 x.s]), some (.pointer (some ⟨g, (p + 1) * 5, none⟩)), none, some (.pointer (some ⟨g, p * 5, none⟩)), none]) (phased [⟨17, 16, fun _ w => Heaps (set5 (set5 W g ((p + 1) * 5) z) g (p * 5) x) w⟩, ⟨15, 14, fun _ w => Heaps (set5 W g ((p + 1) * 5) z) w⟩] (fun w => Heaps W w)) (by kernel_rfl) (by kernel_rfl) (by kernel_rfl) (by kernel_rfl) (phased_ext (by kernel_rfl)) ?_ ?_ ?_
            · exact Heaps.drew W
            · intro i o ho L a w2 hph hsz hLi hnot hyes old dep
              match i, ho with
              | 0, ho =>
                obtain rfl := Option.some.inj ho
                rw [if_pos (wanted_none rfl)]
                have o3 := old 3 (by kernel_rfl)
                refine wp_yields (v := .slice (some ⟨g, 0, none⟩) (ys.length + 1) cap) (w' := w2) ?_ (fun u hu => Option.some.inj (Option.some.inj hu)) (phased_quiet hLi (by rfl) hph)
                clear dep old ho hsz hph hnot hyes hLi
                go_simp
              | 1, ho =>
                obtain rfl := Option.some.inj ho
                rw [if_pos (wanted_none rfl)]
                have o6 := old 6 (by kernel_rfl)
                refine wp_yields (v := .int .i64 ((p + 1 : Nat) : Int)) (w' := w2) ?_ (fun u hu => Option.some.inj (Option.some.inj hu)) (phased_quiet hLi (by rfl) hph)
                clear dep old ho hsz hph hnot hyes hLi
                go_simp
              | 2, ho =>
                obtain rfl := Option.some.inj ho
                rw [if_pos (wanted_none rfl)]
                have o3 := old 3 (by kernel_rfl)
                refine wp_yields (v := .slice (some ⟨g, 0, none⟩) (ys.length + 1) cap) (w' := w2) ?_ (fun u hu => Option.some.inj (Option.some.inj hu)) (phased_quiet hLi (by rfl) hph)
                clear dep old ho hsz hph hnot hyes hLi
                go_simp
              | 3, ho =>
                obtain rfl := Option.some.inj ho
                rw [if_pos (wanted_none rfl)]
                have o6 := old 6 (by kernel_rfl)
                refine wp_yields (v := .int .i64 ((p + 1 : Nat) : Int)) (w' := w2) ?_ (fun u hu => Option.some.inj (Option.some.inj hu)) (phased_quiet hLi (by rfl) hph)
                clear dep old ho hsz hph hnot hyes hLi
                go_simp
              | 4, ho =>
                obtain rfl := Option.some.inj ho
                rw [if_pos (wanted_none rfl)]
                have d3 : a.tmps.getD 75 undef = .int .i64 ((p + 1 : Nat) : Int) := dep 3 _ _ (by kernel_rfl) rfl rfl _ rfl
                have e3 : a.tmps[75]?.getD undef = .int .i64 ((p + 1 : Nat) : Int) := (Array.getD_eq_getD_getElem? ..).symm.trans d3
                refine wp_yields (v := .int .i64 (p : Int)) (w' := w2) ?_ (fun u hu => Option.some.inj (Option.some.inj hu)) (phased_quiet hLi (by rfl) hph)
                clear dep old ho hsz hph hnot hyes hLi
                go_simp
              | 5, ho =>
                obtain rfl := Option.some.inj ho
                rw [if_pos (wanted_none rfl)]
                have o3 := old 3 (by kernel_rfl)
                refine wp_yields (v := .slice (some ⟨g, 0, none⟩) (ys.length + 1) cap) (w' := w2) ?_ (fun u hu => Option.some.inj (Option.some.inj hu)) (phased_quiet hLi (by rfl) hph)
                clear dep old ho hsz hph hnot hyes hLi
                go_simp
              | 6, ho =>
                obtain rfl := Option.some.inj ho
                rw [if_pos (wanted_none rfl)]
                have o6 := old 6 (by kernel_rfl)
                refine wp_yields (v := .int .i64 ((p + 1 : Nat) : Int)) (w' := w2) ?_ (fun u hu => Option.some.inj (Option.some.inj hu)) (phased_quiet hLi (by rfl) hph)
                clear dep old ho hsz hph hnot hyes hLi
                go_simp
              | 7, ho =>
                obtain rfl := Option.some.inj ho
                rw [if_pos (wanted_none rfl)]
                have d6 : a.tmps.getD 78 undef = .int .i64 ((p + 1 : Nat) : Int) := dep 6 _ _ (by kernel_rfl) rfl rfl _ rfl
                have e6 : a.tmps[78]?.getD undef = .int .i64 ((p + 1 : Nat) : Int) := (Array.getD_eq_getD_getElem? ..).symm.trans d6
                refine wp_yields (v := .int .i64 (p : Int)) (w' := w2) ?_ (fun u hu => Option.some.inj (Option.some.inj hu)) (phased_quiet hLi (by rfl) hph)
                clear dep old ho hsz hph hnot hyes hLi
                go_simp
              | 8, ho =>
                obtain rfl := Option.some.inj ho
                rw [if_pos (wanted_none rfl)]
                have d5 : a.tmps.getD 77 undef = .slice (some ⟨g, 0, none⟩) (ys.length + 1) cap := dep 5 _ _ (by kernel_rfl) rfl rfl _ rfl
                have e5 : a.tmps[77]?.getD undef = .slice (some ⟨g, 0, none⟩) (ys.length + 1) cap := (Array.getD_eq_getD_getElem? ..).symm.trans d5
                have d7 : a.tmps.getD 79 undef = .int .i64 (p : Int) := dep 7 _ _ (by kernel_rfl) rfl rfl _ rfl
                have e7 : a.tmps[79]?.getD undef = .int .i64 (p : Int) := (Array.getD_eq_getD_getElem? ..).symm.trans d7
                refine wp_yields (v := .pointer (some ⟨g, p * 5, none⟩)) (w' := w2) ?_ (fun u hu => Option.some.inj (Option.some.inj hu)) (phased_quiet hLi (by rfl) hph)
                clear dep old ho hsz hph hnot hyes hLi
                go_simp
              | 9, ho =>
                obtain rfl := Option.some.inj ho
                rw [if_pos (wanted_none rfl)]
                have d8 : a.tmps.getD 80 undef = .pointer (some ⟨g, p * 5, none⟩) := dep 8 _ _ (by kernel_rfl) rfl rfl _ rfl
                have e8 : a.tmps[80]?.getD undef = .pointer (some ⟨g, p * 5, none⟩) := (Array.getD_eq_getD_getElem? ..).symm.trans d8
                have hA : Heaps W w2 := phased_first (fun p hp => by simp only [List.mem_cons, List.not_mem_nil, or_false] at hp; rcases hp with rfl | rfl; exact hnot 17 (by kernel_rfl); exact hnot 15 (by kernel_rfl)) hph
                obtain ⟨c0, c1, c2, c3, c4⟩ := Its.cells (hA.its HI.out) HN.out HLa.out
                refine wp_yields (v := .agg #[.int .i64 z.t, .string z.key, .string z.val, .int .i64 z.p, .int .i64 z.s]) (w' := w2) ?_ (fun u hu => Option.some.inj (Option.some.inj hu)) (phased_quiet hLi (by rfl) hph)
                clear dep old ho hsz hph hnot hyes hLi hA
                go_simp
              | 10, ho =>
                obtain rfl := Option.some.inj ho
                rw [if_pos (wanted_none rfl)]
                have o3 := old 3 (by kernel_rfl)
                refine wp_yields (v := .slice (some ⟨g, 0, none⟩) (ys.length + 1) cap) (w' := w2) ?_ (fun u hu => Option.some.inj (Option.some.inj hu)) (phased_quiet hLi (by rfl) hph)
                clear dep old ho hsz hph hnot hyes hLi
                go_simp
              | 11, ho =>
                obtain rfl := Option.some.inj ho
                rw [if_pos (wanted_none rfl)]
                have o6 := old 6 (by kernel_rfl)
                refine wp_yields (v := .int .i64 ((p + 1 : Nat) : Int)) (w' := w2) ?_ (fun u hu => Option.some.inj (Option.some.inj hu)) (phased_quiet hLi (by rfl) hph)
                clear dep old ho hsz hph hnot hyes hLi
                go_simp
              | 12, ho =>
                obtain rfl := Option.some.inj ho
                rw [if_pos (wanted_none rfl)]
                have d10 : a.tmps.getD 82 undef = .slice (some ⟨g, 0, none⟩) (ys.length + 1) cap := dep 10 _ _ (by kernel_rfl) rfl rfl _ rfl
                have e10 : a.tmps[82]?.getD undef = .slice (some ⟨g, 0, none⟩) (ys.length + 1) cap := (Array.getD_eq_getD_getElem? ..).symm.trans d10
                have d11 : a.tmps.getD 83 undef = .int .i64 ((p + 1 : Nat) : Int) := dep 11 _ _ (by kernel_rfl) rfl rfl _ rfl
                have e11 : a.tmps[83]?.getD undef = .int .i64 ((p + 1 : Nat) : Int) := (Array.getD_eq_getD_getElem? ..).symm.trans d11
                refine wp_yields (v := .pointer (some ⟨g, (p + 1) * 5, none⟩)) (w' := w2) ?_ (fun u hu => Option.some.inj (Option.some.inj hu)) (phased_quiet hLi (by rfl) hph)
                clear dep old ho hsz hph hnot hyes hLi
                go_simp
              | 13, ho =>
                obtain rfl := Option.some.inj ho
                rw [if_pos (wanted_none rfl)]
                have d12 : a.tmps.getD 84 undef = .pointer (some ⟨g, (p + 1) * 5, none⟩) := dep 12 _ _ (by kernel_rfl) rfl rfl _ rfl
                have e12 : a.tmps[84]?.getD undef = .pointer (some ⟨g, (p + 1) * 5, none⟩) := (Array.getD_eq_getD_getElem? ..).symm.trans d12
                have hA : Heaps W w2 := phased_first (fun p hp => by simp only [List.mem_cons, List.not_mem_nil, or_false] at hp; rcases hp with rfl | rfl; exact hnot 17 (by kernel_rfl); exact hnot 15 (by kernel_rfl)) hph
                obtain ⟨c0, c1, c2, c3, c4⟩ := Its.cells (hA.its HI.out) HN.out HLx.out
                refine wp_yields (v := .agg #[.int .i64 x.t, .string x.key, .string x.val, .int .i64 x.p, .int .i64 x.s]) (w' := w2) ?_ (fun u hu => Option.some.inj (Option.some.inj hu)) (phased_quiet hLi (by rfl) hph)
                clear dep old ho hsz hph hnot hyes hLi hA
                go_simp
              | 14, ho =>
                obtain rfl := Option.some.inj ho
                rw [if_pos (wanted_none rfl)]
                have d0 : a.tmps.getD 72 undef = .slice (some ⟨g, 0, none⟩) (ys.length + 1) cap := dep 0 _ _ (by kernel_rfl) rfl rfl _ rfl
                have e0 : a.tmps[72]?.getD undef = .slice (some ⟨g, 0, none⟩) (ys.length + 1) cap := (Array.getD_eq_getD_getElem? ..).symm.trans d0
                have d1 : a.tmps.getD 73 undef = .int .i64 ((p + 1 : Nat) : Int) := dep 1 _ _ (by kernel_rfl) rfl rfl _ rfl
                have e1 : a.tmps[73]?.getD undef = .int .i64 ((p + 1 : Nat) : Int) := (Array.getD_eq_getD_getElem? ..).symm.trans d1
                refine wp_yields (v := .pointer (some ⟨g, (p + 1) * 5, none⟩)) (w' := w2) ?_ (fun u hu => Option.some.inj (Option.some.inj hu)) (phased_quiet hLi (by rfl) hph)
                clear dep old ho hsz hph hnot hyes hLi
                go_simp
              | 15, ho =>
                obtain rfl := Option.some.inj ho
                rw [if_pos (wanted_none rfl)]
                have d9 : a.tmps.getD 81 undef = .agg #[.int .i64 z.t, .string z.key, .string z.val, .int .i64 z.p, .int .i64 z.s] := dep 9 _ _ (by kernel_rfl) rfl rfl _ rfl
                have e9 : a.tmps[81]?.getD undef = .agg #[.int .i64 z.t, .string z.key, .string z.val, .int .i64 z.p, .int .i64 z.s] := (Array.getD_eq_getD_getElem? ..).symm.trans d9
                have d14 : a.tmps.getD 86 undef = .pointer (some ⟨g, (p + 1) * 5, none⟩) := dep 14 _ _ (by kernel_rfl) rfl rfl _ rfl
                have e14 : a.tmps[86]?.getD undef = .pointer (some ⟨g, (p + 1) * 5, none⟩) := (Array.getD_eq_getD_getElem? ..).symm.trans d14
                have hA : Heaps W w2 := phased_first (fun p hp => by simp only [List.mem_cons, List.not_mem_nil, or_false] at hp; rcases hp with rfl | rfl; exact hnot 17 (by kernel_rfl); exact hLi) hph
                obtain ⟨c0, c1, c2, c3, c4⟩ := Its.cells (hA.its HI.out) HN.out HLx.out
                have z0 := Its.frozen (hA.its HI.out) HN.out ((p + 1) * 5)
                have z1 := Its.frozen (hA.its HI.out) HN.out ((p + 1) * 5 + 1)
                have z2 := Its.frozen (hA.its HI.out) HN.out ((p + 1) * 5 + 2)
                have z3 := Its.frozen (hA.its HI.out) HN.out ((p + 1) * 5 + 3)
                have z4 := Its.frozen (hA.its HI.out) HN.out ((p + 1) * 5 + 4)
                refine wp_skips (w' := set5 w2 g ((p + 1) * 5) z) ?_ (fun u hu => by cases Option.some.inj hu) ?_
                · clear dep old ho hsz hnot hyes hLi hph hA
                  unfold set5
                  go_simp
                · unfold phased phased
                  rw [if_neg (by simp [also, hnot 17 (by kernel_rfl)]), if_pos (by simp [also])]
                  exact ⟨by simp [also, hyes 14 (by kernel_rfl)], hA.set5 _ _ _⟩
              | 16, ho =>
                obtain rfl := Option.some.inj ho
                rw [if_pos (wanted_none rfl)]
                have d2 : a.tmps.getD 74 undef = .slice (some ⟨g, 0, none⟩) (ys.length + 1) cap := dep 2 _ _ (by kernel_rfl) rfl rfl _ rfl
                have e2 : a.tmps[74]?.getD undef = .slice (some ⟨g, 0, none⟩) (ys.length + 1) cap := (Array.getD_eq_getD_getElem? ..).symm.trans d2
                have d4 : a.tmps.getD 76 undef = .int .i64 (p : Int) := dep 4 _ _ (by kernel_rfl) rfl rfl _ rfl
                have e4 : a.tmps[76]?.getD undef = .int .i64 (p : Int) := (Array.getD_eq_getD_getElem? ..).symm.trans d4
                refine wp_yields (v := .pointer (some ⟨g, p * 5, none⟩)) (w' := w2) ?_ (fun u hu => Option.some.inj (Option.some.inj hu)) (phased_quiet hLi (by rfl) hph)
                clear dep old ho hsz hph hnot hyes hLi
                go_simp
              | 17, ho =>
                obtain rfl := Option.some.inj ho
                rw [if_pos (wanted_none rfl)]
                have d13 : a.tmps.getD 85 undef = .agg #[.int .i64 x.t, .string x.key, .string x.val, .int .i64 x.p, .int .i64 x.s] := dep 13 _ _ (by kernel_rfl) rfl rfl _ rfl
                have e13 : a.tmps[85]?.getD undef = .agg #[.int .i64 x.t, .string x.key, .string x.val, .int .i64 x.p, .int .i64 x.s] := (Array.getD_eq_getD_getElem? ..).symm.trans d13
                have d16 : a.tmps.getD 87 undef = .pointer (some ⟨g, p * 5, none⟩) := dep 16 _ _ (by kernel_rfl) rfl rfl _ rfl
                have e16 : a.tmps[87]?.getD undef = .pointer (some ⟨g, p * 5, none⟩) := (Array.getD_eq_getD_getElem? ..).symm.trans d16
                unfold phased phased at hph
                rw [if_neg (by rw [hLi]; decide), if_pos (hyes 15 (by kernel_rfl))] at hph
                have hA : Heaps (set5 W g ((p + 1) * 5) z) w2 := hph.2
                obtain ⟨c0, c1, c2, c3, c4⟩ := Its.cells (hA.its HI2.out) HN2.out HLa2.out
                have z0 := Its.frozen (hA.its HI2.out) HN2.out (p * 5)
                have z1 := Its.frozen (hA.its HI2.out) HN2.out (p * 5 + 1)
                have z2 := Its.frozen (hA.its HI2.out) HN2.out (p * 5 + 2)
                have z3 := Its.frozen (hA.its HI2.out) HN2.out (p * 5 + 3)
                have z4 := Its.frozen (hA.its HI2.out) HN2.out (p * 5 + 4)
                refine wp_skips (w' := set5 w2 g (p * 5) x) ?_ (fun u hu => by cases Option.some.inj hu) ?_
                · clear dep old ho hsz hnot hyes hLi hph hA
                  unfold set5
                  go_simp
                · unfold phased
                  rw [if_pos (by simp [also])]
                  exact ⟨by simp [also, hyes 16 (by kernel_rfl)], hA.set5 _ _ _⟩
              | i + 18, ho => exact absurd ho (by simp)
            · intro a w2 hph hsz hdf fin keep
              unfold phased at hph
              rw [if_pos rfl] at hph
              have HPH := hide (HSW.out.swap HAT.out |>.heaps hph.2)
              obtain ⟨tm, df⟩ := a
              dsimp only at hdf
              subst hdf
              have hx := frame_of [72, 73, 74, 75, 76, 77, 78, 79, 80, 81, 82, 83, 84, 85, 86, 87] (by kernel_rfl) hsz keep
              dsimp only at hx
              simp only [List.foldl_cons, List.foldl_nil] at hx
              clear hsz keep hph fin
              generalize tm.getD 72 undef = y72 at hx
              generalize tm.getD 73 undef = y73 at hx
              generalize tm.getD 74 undef = y74 at hx
              generalize tm.getD 75 undef = y75 at hx
              generalize tm.getD 76 undef = y76 at hx
              generalize tm.getD 77 undef = y77 at hx
              generalize tm.getD 78 undef = y78 at hx
              generalize tm.getD 79 undef = y79 at hx
              generalize tm.getD 80 undef = y80 at hx
              generalize tm.getD 81 undef = y81 at hx
              generalize tm.getD 82 undef = y82 at hx
              generalize tm.getD 83 undef = y83 at hx
              generalize tm.getD 84 undef = y84 at hx
              generalize tm.getD 85 undef = y85 at hx
              generalize tm.getD 86 undef = y86 at hx
              generalize tm.getD 87 undef = y87 at hx
              simp only [List.setIfInBounds_toArray, List.set_cons_succ, List.set_cons_zero] at hx
              subst hx
              clear HI HN HLa HLx HI2 HN2 HLa2 HSW
              go_wp2
              go_roundw
              case rel => exact ⟨p, by omega, by first | rfl | go_num | simp, HDN, HPH⟩
              case measure => simp [intOf]
          · have hd1 : decide (x.t < z.t) = false := by simpa using ht
            by_cases he : x.t = z.t
            · have hd2 : (x.t == z.t) = true := by simpa using he
              cases hbl : Op.bytesLess x.key.toList z.key.toList
              · have hB : itB x z = false := by unfold itB; rw [hd1, hbl, Bool.and_false, Bool.or_false]
                clear ht he
                have hin : Hid (ys.take (p + 1) ++ x :: ys.drop (p + 1) = ins x ys) := hide (ins_here HSO.out.1 hq hd.out (fun z9 _ hz => by rw [Nat.add_sub_cancel, HAT.out] at hz; obtain rfl := Option.some.inj hz; exact hB))
                have hB2 := hide hB
                clear hB
                go_wp2
                go_quiet (fail)
                go_wp2
                have hso2 : Hid (SO w b n f c left2 cnt' (.slice (some ⟨g, 0, none⟩) (ys.length + 1) cap) (ins x ys) (wr.drewN nq)) := hide (so_next TIE.out HSO.out.1 HSO.out.2 HX.out HF.out HL.out HL2.out hin.out (hsi.out.heaps ⟨rfl, rfl, rfl, rfl⟩))
                go_roundw
                case rel => exact ⟨_, _, _, hso2⟩
                case measure => rw [hso2.out.rg.left_eq]; exact HLT.out
              · have hB : itB x z = true := itB_iff.2 (.inr ⟨he, hbl⟩)
                clear ht he
                have hB2 := hide hB
                clear hB
                go_wp2
                go_quiet (fail)
                have hsiW := hsi.out.heaps (W' := wr.drewN nq) ⟨rfl, rfl, rfl, rfl⟩
                generalize wr.drewN nq = W at hsiW ⊢
                obtain ⟨m0, m1⟩ := mid_at (x := x) HAT.out
                have HI := hide hsiW.its
                have HN := hide hsiW.len
                have HLa := hide m0
                have HLx := hide m1
                have HI2 := hide (Its.put hsiW.its hsiW.len (j := p + 1) (by rw [← hsiW.len]; omega) z)
                have HN2 : Hid (ys.length + 1 = ((ys.take (p + 1) ++ x :: ys.drop (p + 1)).set (p + 1) z).length) := hide (by rw [List.length_set]; exact hsiW.len)
                have HLa2 : Hid (((ys.take (p + 1) ++ x :: ys.drop (p + 1)).set (p + 1) z)[p]? = some z) := hide (by rw [List.getElem?_set_ne (by omega)]; exact m0)
                have HSW := hide hsiW
                have HDN : Hid (∀ b ∈ ys.drop p, itB x b = true) := hide (fun b hb => by
                  rw [List.drop_eq_getElem_cons (by omega)] at hb
                  rcases List.mem_cons.1 hb with rfl | hb
                  · have e := List.getElem?_eq_getElem (show p < ys.length by omega)
                    rw [HAT.out] at e
                    rw [← Option.some.inj e]
                    exact hB2.out
                  · exact hd.out b hb)
                clear hsiW m0 m1 a0 a1 a2 a3 a4 x0 x1 x2 x3 x4
                go_wp2
                refine region_phases (ops := _) (valV [some (.slice (some ⟨g, 0, none⟩) (ys.length + 1) cap), some (.int .i64 ((p + 1 : Nat) : Int)), some (.slice (some ⟨g, 0, none⟩) (ys.length + 1) cap), some (.int .i64 ((p + 1 : Nat) : Int)), some (.int .i64 (p : Int)), some (.slice (some ⟨g, 0, none⟩) (ys.length + 1) cap), some (.int .i64 ((p + 1 : Nat) : Int)), some (.int .i64 (p : Int)), some (.pointer (some ⟨g, p * 5, none⟩)), some (.agg #[.int .i64 z.t, .string z.key, .string z.val, .int .i64 z.p, .int .i64 z.s]), some (.slice (some ⟨g, 0, none⟩) (ys.length + 1) cap), some (.int .i64 ((p + 1 : Nat) : Int)), some (.pointer (some ⟨g, (p + 1) * 5, none⟩)), some (.agg #[.int .i64 x.t, .string x.key, .string x.val, .int .i64 x.p, .int .i64 x.s]), some (.pointer (some ⟨g, (p + 1) * 5, none⟩)), none, some (.pointer (some ⟨g, p * 5, none⟩)), none]) (phased [⟨17, 16, fun _ w => Heaps (set5 (set5 W g ((p + 1) * 5) z) g (p * 5) x) w⟩, ⟨15, 14, fun _ w => Heaps (set5 W g ((p + 1) * 5) z) w⟩] (fun w => Heaps W w)) (by kernel_rfl) (by kernel_rfl) (by kernel_rfl) (by kernel_rfl) (phased_ext (by kernel_rfl)) ?_ ?_ ?_
                · exact Heaps.drew W
                · intro i o ho L a w2 hph hsz hLi hnot hyes old dep
                  match i, ho with
                  | 0, ho =>
                    obtain rfl := Option.some.inj ho
                    rw [if_pos (wanted_none rfl)]
                    have o3 := old 3 (by kernel_rfl)
                    refine wp_yields (v := .slice (some ⟨g, 0, none⟩) (ys.length + 1) cap) (w' := w2) ?_ (fun u hu => Option.some.inj (Option.some.inj hu)) (phased_quiet hLi (by rfl) hph)
                    clear dep old ho hsz hph hnot hyes hLi
                    go_simp
                  | 1, ho =>
                    obtain rfl := Option.some.inj ho
                    rw [if_pos (wanted_none rfl)]
                    have o6 := old 6 (by kernel_rfl)
                    refine wp_yields (v := .int .i64 ((p + 1 : Nat) : Int)) (w' := w2) ?_ (fun u hu => Option.some.inj (Option.some.inj hu)) (phased_quiet hLi (by rfl) hph)
                    clear dep old ho hsz hph hnot hyes hLi
                    go_simp
                  | 2, ho =>
                    obtain rfl := Option.some.inj ho
                    rw [if_pos (wanted_none rfl)]
                    have o3 := old 3 (by kernel_rfl)
                    refine wp_yields (v := .slice (some ⟨g, 0, none⟩) (ys.length + 1) cap) (w' := w2) ?_ (fun u hu => Option.some.inj (Option.some.inj hu)) (phased_quiet hLi (by rfl) hph)
                    clear dep old ho hsz hph hnot hyes hLi
                    go_simp
                  | 3, ho =>
                    obtain rfl := Option.some.inj ho
                    rw [if_pos (wanted_none rfl)]
                    have o6 := old 6 (by kernel_rfl)
                    refine wp_yields (v := .int .i64 ((p + 1 : Nat) : Int)) (w' := w2) ?_ (fun u hu => Option.some.inj (Option.some.inj hu)) (phased_quiet hLi (by rfl) hph)
                    clear dep old ho hsz hph hnot hyes hLi
                    go_simp
                  | 4, ho =>
                    obtain rfl := Option.some.inj ho
                    rw [if_pos (wanted_none rfl)]
                    have d3 : a.tmps.getD 75 undef = .int .i64 ((p + 1 : Nat) : Int) := dep 3 _ _ (by kernel_rfl) rfl rfl _ rfl
                    have e3 : a.tmps[75]?.getD undef = .int .i64 ((p + 1 : Nat) : Int) := (Array.getD_eq_getD_getElem? ..).symm.trans d3
                    refine wp_yields (v := .int .i64 (p : Int)) (w' := w2) ?_ (fun u hu => Option.some.inj (Option.some.inj hu)) (phased_quiet hLi (by rfl) hph)
                    clear dep old ho hsz hph hnot hyes hLi
                    go_simp
                  | 5, ho =>
                    obtain rfl := Option.some.inj ho
                    rw [if_pos (wanted_none rfl)]
                    have o3 := old 3 (by kernel_rfl)
                    refine wp_yields (v := .slice (some ⟨g, 0, none⟩) (ys.length + 1) cap) (w' := w2) ?_ (fun u hu => Option.some.inj (Option.some.inj hu)) (phased_quiet hLi (by rfl) hph)
                    clear dep old ho hsz hph hnot hyes hLi
                    go_simp
                  | 6, ho =>
                    obtain rfl := Option.some.inj ho
                    rw [if_pos (wanted_none rfl)]
                    have o6 := old 6 (by kernel_rfl)
                    refine wp_yields (v := .int .i64 ((p + 1 : Nat) : Int)) (w' := w2) ?_ (fun u hu => Option.some.inj (Option.some.inj hu)) (phased_quiet hLi (by rfl) hph)
                    clear dep old ho hsz hph hnot hyes hLi
                    go_simp
                  | 7, ho =>
                    obtain rfl := Option.some.inj ho
                    rw [if_pos (wanted_none rfl)]
                    have d6 : a.tmps.getD 78 undef = .int .i64 ((p + 1 : Nat) : Int) := dep 6 _ _ (by kernel_rfl) rfl rfl _ rfl
                    have e6 : a.tmps[78]?.getD undef = .int .i64 ((p + 1 : Nat) : Int) := (Array.getD_eq_getD_getElem? ..).symm.trans d6
                    refine wp_yields (v := .int .i64 (p : Int)) (w' := w2) ?_ (fun u hu => Option.some.inj (Option.some.inj hu)) (phased_quiet hLi (by rfl) hph)
                    clear dep old ho hsz hph hnot hyes hLi
                    go_simp
                  | 8, ho =>
                    obtain rfl := Option.some.inj ho
                    rw [if_pos (wanted_none rfl)]
                    have d5 : a.tmps.getD 77 undef = .slice (some ⟨g, 0, none⟩) (ys.length + 1) cap := dep 5 _ _ (by kernel_rfl) rfl rfl _ rfl
                    have e5 : a.tmps[77]?.getD undef = .slice (some ⟨g, 0, none⟩) (ys.length + 1) cap := (Array.getD_eq_getD_getElem? ..).symm.trans d5
                    have d7 : a.tmps.getD 79 undef = .int .i64 (p : Int) := dep 7 _ _ (by kernel_rfl) rfl rfl _ rfl
                    have e7 : a.tmps[79]?.getD undef = .int .i64 (p : Int) := (Array.getD_eq_getD_getElem? ..).symm.trans d7
                    refine wp_yields (v := .pointer (some ⟨g, p * 5, none⟩)) (w' := w2) ?_ (fun u hu => Option.some.inj (Option.some.inj hu)) (phased_quiet hLi (by rfl) hph)
                    clear dep old ho hsz hph hnot hyes hLi
                    go_simp
                  | 9, ho =>
                    obtain rfl := Option.some.inj ho
                    rw [if_pos (wanted_none rfl)]
                    have d8 : a.tmps.getD 80 undef = .pointer (some ⟨g, p * 5, none⟩) := dep 8 _ _ (by kernel_rfl) rfl rfl _ rfl
                    have e8 : a.tmps[80]?.getD undef = .pointer (some ⟨g, p * 5, none⟩) := (Array.getD_eq_getD_getElem? ..).symm.trans d8
                    have hA : Heaps W w2 := phased_first (fun p hp => by simp only [List.mem_cons, List.not_mem_nil, or_false] at hp; rcases hp with rfl | rfl; exact hnot 17 (by kernel_rfl); exact hnot 15 (by kernel_rfl)) hph
                    obtain ⟨c0, c1, c2, c3, c4⟩ := Its.cells (hA.its HI.out) HN.out HLa.out
                    refine wp_yields (v := .agg #[.int .i64 z.t, .string z.key, .string z.val, .int .i64 z.p, .int .i64 z.s]) (w' := w2) ?_ (fun u hu => Option.some.inj (Option.some.inj hu)) (phased_quiet hLi (by rfl) hph)
                    clear dep old ho hsz hph hnot hyes hLi hA
                    go_simp
                  | 10, ho =>
                    obtain rfl := Option.some.inj ho
                    rw [if_pos (wanted_none rfl)]
                    have o3 := old 3 (by kernel_rfl)
                    refine wp_yields (v := .slice (some ⟨g, 0, none⟩) (ys.length + 1) cap) (w' := w2) ?_ (fun u hu => Option.some.inj (Option.some.inj hu)) (phased_quiet hLi (by rfl) hph)
                    clear dep old ho hsz hph hnot hyes hLi
                    go_simp
                  | 11, ho =>
                    obtain rfl := Option.some.inj ho
                    rw [if_pos (wanted_none rfl)]
                    have o6 := old 6 (by kernel_rfl)
                    refine wp_yields (v := .int .i64 ((p + 1 : Nat) : Int)) (w' := w2) ?_ (fun u hu => Option.some.inj (Option.some.inj hu)) (phased_quiet hLi (by rfl) hph)
                    clear dep old ho hsz hph hnot hyes hLi
                    go_simp
                  | 12, ho =>
                    obtain rfl := Option.some.inj ho
                    rw [if_pos (wanted_none rfl)]
                    have d10 : a.tmps.getD 82 undef = .slice (some ⟨g, 0, none⟩) (ys.length + 1) cap := dep 10 _ _ (by kernel_rfl) rfl rfl _ rfl
                    have e10 : a.tmps[82]?.getD undef = .slice (some ⟨g, 0, none⟩) (ys.length + 1) cap := (Array.getD_eq_getD_getElem? ..).symm.trans d10
                    have d11 : a.tmps.getD 83 undef = .int .i64 ((p + 1 : Nat) : Int) := dep 11 _ _ (by kernel_rfl) rfl rfl _ rfl
                    have e11 : a.tmps[83]?.getD undef = .int .i64 ((p + 1 : Nat) : Int) := (Array.getD_eq_getD_getElem? ..).symm.trans d11
                    refine wp_yields (v := .pointer (some ⟨g, (p + 1) * 5, none⟩)) (w' := w2) ?_ (fun u hu => Option.some.inj (Option.some.inj hu)) (phased_quiet hLi (by rfl) hph)
                    clear dep old ho hsz hph hnot hyes hLi
                    go_simp
                  | 13, ho =>
                    obtain rfl := Option.some.inj ho
                    rw [if_pos (wanted_none rfl)]
                    have d12 : a.tmps.getD 84 undef = .pointer (some ⟨g, (p + 1) * 5, none⟩) := dep 12 _ _ (by kernel_rfl) rfl rfl _ rfl
                    have e12 : a.tmps[84]?.getD undef = .pointer (some ⟨g, (p + 1) * 5, none⟩) := (Array.getD_eq_getD_getElem? ..).symm.trans d12
                    have hA : Heaps W w2 := phased_first (fun p hp => by simp only [List.mem_cons, List.not_mem_nil, or_false] at hp; rcases hp with rfl | rfl; exact hnot 17 (by kernel_rfl); exact hnot 15 (by kernel_rfl)) hph
                    obtain ⟨c0, c1, c2, c3, c4⟩ := Its.cells (hA.its HI.out) HN.out HLx.out
                    refine wp_yields (v := .agg #[.int .i64 x.t, .string x.key, .string x.val, .int .i64 x.p, .int .i64 x.s]) (w' := w2) ?_ (fun u hu => Option.some.inj (Option.some.inj hu)) (phased_quiet hLi (by rfl) hph)
                    clear dep old ho hsz hph hnot hyes hLi hA
                    go_simp
                  | 14, ho =>
                    obtain rfl := Option.some.inj ho
                    rw [if_pos (wanted_none rfl)]
                    have d0 : a.tmps.getD 72 undef = .slice (some ⟨g, 0, none⟩) (ys.length + 1) cap := dep 0 _ _ (by kernel_rfl) rfl rfl _ rfl
                    have e0 : a.tmps[72]?.getD undef = .slice (some ⟨g, 0, none⟩) (ys.length + 1) cap := (Array.getD_eq_getD_getElem? ..).symm.trans d0
                    have d1 : a.tmps.getD 73 undef = .int .i64 ((p + 1 : Nat) : Int) := dep 1 _ _ (by kernel_rfl) rfl rfl _ rfl
                    have e1 : a.tmps[73]?.getD undef = .int .i64 ((p + 1 : Nat) : Int) := (Array.getD_eq_getD_getElem? ..).symm.trans d1
                    refine wp_yields (v := .pointer (some ⟨g, (p + 1) * 5, none⟩)) (w' := w2) ?_ (fun u hu => Option.some.inj (Option.some.inj hu)) (phased_quiet hLi (by rfl) hph)
                    clear dep old ho hsz hph hnot hyes hLi
                    go_simp
                  | 15, ho =>
                    obtain rfl := Option.some.inj ho
                    rw [if_pos (wanted_none rfl)]
                    have d9 : a.tmps.getD 81 undef = .agg #[.int .i64 z.t, .string z.key, .string z.val, .int .i64 z.p, .int .i64 z.s] := dep 9 _ _ (by kernel_rfl) rfl rfl _ rfl
                    have e9 : a.tmps[81]?.getD undef = .agg #[.int .i64 z.t, .string z.key, .string z.val, .int .i64 z.p, .int .i64 z.s] := (Array.getD_eq_getD_getElem? ..).symm.trans d9
                    have d14 : a.tmps.getD 86 undef = .pointer (some ⟨g, (p + 1) * 5, none⟩) := dep 14 _ _ (by kernel_rfl) rfl rfl _ rfl
                    have e14 : a.tmps[86]?.getD undef = .pointer (some ⟨g, (p + 1) * 5, none⟩) := (Array.getD_eq_getD_getElem? ..).symm.trans d14
                    have hA : Heaps W w2 := phased_first (fun p hp => by simp only [List.mem_cons, List.not_mem_nil, or_false] at hp; rcases hp with rfl | rfl; exact hnot 17 (by kernel_rfl); exact hLi) hph
                    obtain ⟨c0, c1, c2, c3, c4⟩ := Its.cells (hA.its HI.out) HN.out HLx.out
                    have z0 := Its.frozen (hA.its HI.out) HN.out ((p + 1) * 5)
                    have z1 := Its.frozen (hA.its HI.out) HN.out ((p + 1) * 5 + 1)
                    have z2 := Its.frozen (hA.its HI.out) HN.out ((p + 1) * 5 + 2)
                    have z3 := Its.frozen (hA.its HI.out) HN.out ((p + 1) * 5 + 3)
                    have z4 := Its.frozen (hA.its HI.out) HN.out ((p + 1) * 5 + 4)
                    refine wp_skips (w' := set5 w2 g ((p + 1) * 5) z) ?_ (fun u hu => by cases Option.some.inj hu) ?_
                    · clear dep old ho hsz hnot hyes hLi hph hA
                      unfold set5
                      go_simp
                    · unfold phased phased
                      rw [if_neg (by simp [also, hnot 17 (by kernel_rfl)]), if_pos (by simp [also])]
                      exact ⟨by simp [also, hyes 14 (by kernel_rfl)], hA.set5 _ _ _⟩
                  | 16, ho =>
                    obtain rfl := Option.some.inj ho
                    rw [if_pos (wanted_none rfl)]
                    have d2 : a.tmps.getD 74 undef = .slice (some ⟨g, 0, none⟩) (ys.length + 1) cap := dep 2 _ _ (by kernel_rfl) rfl rfl _ rfl
                    have e2 : a.tmps[74]?.getD undef = .slice (some ⟨g, 0, none⟩) (ys.length + 1) cap := (Array.getD_eq_getD_getElem? ..).symm.trans d2
                    have d4 : a.tmps.getD 76 undef = .int .i64 (p : Int) := dep 4 _ _ (by kernel_rfl) rfl rfl _ rfl
                    have e4 : a.tmps[76]?.getD undef = .int .i64 (p : Int) := (Array.getD_eq_getD_getElem? ..).symm.trans d4
                    refine wp_yields (v := .pointer (some ⟨g, p * 5, none⟩)) (w' := w2) ?_ (fun u hu => Option.some.inj (Option.some.inj hu)) (phased_quiet hLi (by rfl) hph)
                    clear dep old ho hsz hph hnot hyes hLi
                    go_simp
                  | 17, ho =>
                    obtain rfl := Option.some.inj ho
                    rw [if_pos (wanted_none rfl)]
                    have d13 : a.tmps.getD 85 undef = .agg #[.int .i64 x.t, .string x.key, .string x.val, .int .i64 x.p, .int .i64 x.s] := dep 13 _ _ (by kernel_rfl) rfl rfl _ rfl
                    have e13 : a.tmps[85]?.getD undef = .agg #[.int .i64 x.t, .string x.key, .string x.val, .int .i64 x.p, .int .i64 x.s] := (Array.getD_eq_getD_getElem? ..).symm.trans d13
                    have d16 : a.tmps.getD 87 undef = .pointer (some ⟨g, p * 5, none⟩) := dep 16 _ _ (by kernel_rfl) rfl rfl _ rfl
                    have e16 : a.tmps[87]?.getD undef = .pointer (some ⟨g, p * 5, none⟩) := (Array.getD_eq_getD_getElem? ..).symm.trans d16
                    unfold phased phased at hph
                    rw [if_neg (by rw [hLi]; decide), if_pos (hyes 15 (by kernel_rfl))] at hph
                    have hA : Heaps (set5 W g ((p + 1) * 5) z) w2 := hph.2
                    obtain ⟨c0, c1, c2, c3, c4⟩ := Its.cells (hA.its HI2.out) HN2.out HLa2.out
                    have z0 := Its.frozen (hA.its HI2.out) HN2.out (p * 5)
                    have z1 := Its.frozen (hA.its HI2.out) HN2.out (p * 5 + 1)
                    have z2 := Its.frozen (hA.its HI2.out) HN2.out (p * 5 + 2)
                    have z3 := Its.frozen (hA.its HI2.out) HN2.out (p * 5 + 3)
                    have z4 := Its.frozen (hA.its HI2.out) HN2.out (p * 5 + 4)
                    refine wp_skips (w' := set5 w2 g (p * 5) x) ?_ (fun u hu => by cases Option.some.inj hu) ?_
                    · clear dep old ho hsz hnot hyes hLi hph hA
                      unfold set5
                      go_simp
                    · unfold phased
                      rw [if_pos (by simp [also])]
                      exact ⟨by simp [also, hyes 16 (by kernel_rfl)], hA.set5 _ _ _⟩
                  | i + 18, ho => exact absurd ho (by simp)
                · intro a w2 hph hsz hdf fin keep
                  unfold phased at hph
                  rw [if_pos rfl] at hph
                  have HPH := hide (HSW.out.swap HAT.out |>.heaps hph.2)
                  obtain ⟨tm, df⟩ := a
                  dsimp only at hdf
                  subst hdf
                  have hx := frame_of [72, 73, 74, 75, 76, 77, 78, 79, 80, 81, 82, 83, 84, 85, 86, 87] (by kernel_rfl) hsz keep
                  dsimp only at hx
                  simp only [List.foldl_cons, List.foldl_nil] at hx
                  clear hsz keep hph fin
                  generalize tm.getD 72 undef = y72 at hx
                  generalize tm.getD 73 undef = y73 at hx
                  generalize tm.getD 74 undef = y74 at hx
                  generalize tm.getD 75 undef = y75 at hx
                  generalize tm.getD 76 undef = y76 at hx
                  generalize tm.getD 77 undef = y77 at hx
                  generalize tm.getD 78 undef = y78 at hx
                  generalize tm.getD 79 undef = y79 at hx
                  generalize tm.getD 80 undef = y80 at hx
                  generalize tm.getD 81 undef = y81 at hx
                  generalize tm.getD 82 undef = y82 at hx
                  generalize tm.getD 83 undef = y83 at hx
                  generalize tm.getD 84 undef = y84 at hx
                  generalize tm.getD 85 undef = y85 at hx
                  generalize tm.getD 86 undef = y86 at hx
                  generalize tm.getD 87 undef = y87 at hx
                  simp only [List.setIfInBounds_toArray, List.set_cons_succ, List.set_cons_zero] at hx
                  subst hx
                  clear HI HN HLa HLx HI2 HN2 HLa2 HSW
                  go_wp2
                  go_roundw
                  case rel => exact ⟨p, by omega, by first | rfl | go_num | simp, HDN, HPH⟩
                  case measure => simp [intOf]
            · have hd2 : (x.t == z.t) = false := by simpa using he
              have hB : itB x z = false := by unfold itB; rw [hd1, hd2, Bool.false_and, Bool.or_false]
              clear ht he
              have hin : Hid (ys.take (p + 1) ++ x :: ys.drop (p + 1) = ins x ys) := hide (ins_here HSO.out.1 hq hd.out (fun z9 _ hz => by rw [Nat.add_sub_cancel, HAT.out] at hz; obtain rfl := Option.some.inj hz; exact hB))
              have hB2 := hide hB
              clear hB
              go_wp2
              go_quiet (fail)
              go_wp2
              have hso2 : Hid (SO w b n f c left2 cnt' (.slice (some ⟨g, 0, none⟩) (ys.length + 1) cap) (ins x ys) (wr.drewN nq)) := hide (so_next TIE.out HSO.out.1 HSO.out.2 HX.out HF.out HL.out HL2.out hin.out (hsi.out.heaps ⟨rfl, rfl, rfl, rfl⟩))
              go_roundw
              case rel => exact ⟨_, _, _, hso2⟩
              case measure => rw [hso2.out.rg.left_eq]; exact HLT.out
end Go.Proofs.Ytkcomkllnhdohaa
