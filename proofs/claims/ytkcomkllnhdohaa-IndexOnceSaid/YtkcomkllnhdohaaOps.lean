/-
  Contracts of package index: Find, Remove.
-/
import Derived.Test.YtkcomkllnhdohaaFind
namespace Go.Proofs.Ytkcomkllnhdohaa
open Go.RowKit
set_option maxRecDepth 20000
set_option linter.unusedSimpArgs false
set_option linter.unusedVariables false

def It.vc (x : It) : Array Value := #[.int .i64 x.t, .string x.key, .string x.val, .int .i64 x.p, .int .i64 x.s]
theorem item_cells {w : World} {g : Nat} {t : TypeId} {x : It} (h : Blk w g t x.vc) : w.cell? ⟨g, 0, none⟩ = some (.int .i64 x.t) ∧ w.cell? ⟨g, 1, none⟩ = some (.string x.key) ∧ w.cell? ⟨g, 2, none⟩ = some (.string x.val) ∧ w.cell? ⟨g, 3, none⟩ = some (.int .i64 x.p) ∧ w.cell? ⟨g, 4, none⟩ = some (.int .i64 x.s) :=
  ⟨h.cell 0 _ rfl, h.cell 1 _ rfl, h.cell 2 _ rfl, h.cell 3 _ rfl, h.cell 4 _ rfl⟩
theorem item_frozen {w : World} {g : Nat} {t : TypeId} {cs : Array Value} (h : Blk w g t cs) : w.frozen? ⟨g, 0, none⟩ = false ∧ w.frozen? ⟨g, 1, none⟩ = false ∧ w.frozen? ⟨g, 2, none⟩ = false ∧ w.frozen? ⟨g, 3, none⟩ = false ∧ w.frozen? ⟨g, 4, none⟩ = false :=
  ⟨h.frozen 0, h.frozen 1, h.frozen 2, h.frozen 3, h.frozen 4⟩
theorem zero_vc : (default : It).vc = #[.int .i64 0, .string ⟨#[]⟩, .string ⟨#[]⟩, .int .i64 0, .int .i64 0] := rfl
theorem Find_any {w : World} {g : Nat} {r : Option Nat} {xs : List It} {yt : Int} {yk : ByteArray} (h : Ix w g r xs) :
    Calls Try.prog 15 #[.pointer (some ⟨g, 0, none⟩), .int .i64 yt, .string yk] w fun e w' => e = .returned (.tuple #[(gotL (sought yt yk) xs).v, .bool (hasL (sought yt yk) xs)]) ∧ Below w.heap.size w w' := by
  have hb1 : Below w.heap.size w (w.alloc (.cells #[.int .i64 0, .string ⟨#[]⟩, .string ⟨#[]⟩, .int .i64 0, .int .i64 0] 32)) := (Below.refl _ w).alloc (Nat.le_refl _) _
  have X1 := h.below hb1
  have B1 : Blk (w.alloc (.cells #[.int .i64 0, .string ⟨#[]⟩, .string ⟨#[]⟩, .int .i64 0, .int .i64 0] 32)) w.heap.size 32 (default : It).vc := heap_new w _
  have hf := find_any (yt := yt) (yk := yk) X1
  have HF := hide hf
  have HX := hide X1
  have HB1 := hide hb1
  have HS := hide B1
  have HSRT := hide h.srt
  have HG := hide h.lt
  clear hf X1 hb1 B1 h
  cases hh : hasL (sought yt yk) xs
  · have hg : gotL (sought yt yk) xs = default := by
      unfold hasL at hh
      unfold gotL
      cases e : xs.find? (fun a => itS a (sought yt yk)) with
      | none => rfl
      | some a => rw [e] at hh; cases hh
    rw [hg]
    rw [hh] at HF
    clear hg hh
    unfold It.v
    dsimp only [default]
    go_enter Try.func15, Try.ntmps15
    go_wp2_with (go_at_call 20; refine HF.out.mono ?_; rintro e w2 ⟨rfl, hb⟩; have B2 := HS.out.below hb; obtain ⟨c0, c1, c2, c3, c4⟩ := item_cells B2; obtain ⟨f0, f1, f2, f3, f4⟩ := item_frozen B2; dsimp only [default] at c0 c1 c2 c3 c4; have HBB := hide (HB1.out.trans (hb.mono HB1.out.size)); clear hb B2)
    refine bodyPost_ret (v := .tuple #[.agg #[.int .i64 0, .string ⟨#[]⟩, .string ⟨#[]⟩, .int .i64 0, .int .i64 0], .bool false]) (by simp [results, Try.results15, go_sem, c0, c1, c2, c3, c4, f0, f1, f2, f3, f4]) rfl ⟨rfl, ?_⟩
    exact ((((HBB.out.setCell (Nat.le_refl _) _).setCell (Nat.le_refl _) _).setCell (Nat.le_refl _) _).setCell (Nat.le_refl _) _).setCell (Nat.le_refl _) _
  · obtain ⟨hp, hb, hg⟩ := has_pos HSRT.out hh
    have HA := hide (List.getElem?_eq_getElem hp)
    rw [hg]
    rw [hh] at HF
    have HI := hide (show (0 : Int) ≤ ((posL (sought yt yk) xs : Nat) : Int) ∧ ((posL (sought yt yk) xs : Nat) : Int) < (xs.length : Int) by omega)
    clear hg hh hb
    generalize hm : posL (sought yt yk) xs = m at *
    clear hm
    generalize xs[m] = x at *
    have hpos := hide (show 0 < xs.length by omega)
    clear hp
    unfold It.v
    go_enter Try.func15, Try.ntmps15
    go_wp2_with (go_at_call 20; refine HF.out.mono ?_; rintro e w2 ⟨rfl, hb⟩; have B2 := HS.out.below hb; obtain ⟨v, hv, hit, _⟩ := (HX.out.below hb).v; obtain ⟨k, c, rfl, _, _⟩ := hit.block hpos.out; have g0 := hv.cell 0 _ rfl; obtain ⟨i0, i1, i2, i3, i4⟩ := hit.cells rfl HA.out; obtain ⟨c0, c1, c2, c3, c4⟩ := item_cells B2; obtain ⟨f0, f1, f2, f3, f4⟩ := item_frozen B2; dsimp only [default] at c0 c1 c2 c3 c4; have HBB := hide (HB1.out.trans (hb.mono HB1.out.size)); have q0 := HI.out.1; have q1 := HI.out.2; clear hb B2 hv hit)
    refine bodyPost_ret (v := .tuple #[.agg #[.int .i64 x.t, .string x.key, .string x.val, .int .i64 x.p, .int .i64 x.s], .bool true]) (by simp [results, Try.results15, go_sem, c0, c1, c2, c3, c4, f0, f1, f2, f3, f4]) rfl ⟨rfl, ?_⟩
    exact ((((HBB.out.setCell (Nat.le_refl _) _).setCell (Nat.le_refl _) _).setCell (Nat.le_refl _) _).setCell (Nat.le_refl _) _).setCell (Nat.le_refl _) _
/-- What a call leaves of an index: with other items, its own blocks alone turned. -/
def IxP (w : World) (g : Nat) (r : Option Nat) (ys : List It) (w' : World) : Prop := ∃ r', Ix w' g r' ys ∧ Kept (fun k => k = g ∨ r = some k) w w' ∧ (∀ k, r' = some k → r = some k ∨ w.heap.size ≤ k)
theorem IxP.from_ {w w2 w3 : World} {g : Nat} {r : Option Nat} {ys : List It} (hb : Below w.heap.size w w2) (h : IxP w2 g r ys w3) : IxP w g r ys w3 := by
  obtain ⟨r', h1, h2, h3⟩ := h
  refine ⟨r', h1, (Kept.of_below (S := fun k => k = g ∨ r = some k) hb).trans_same h2, fun k hk => ?_⟩
  rcases h3 k hk with h4 | h4
  · exact .inl h4
  · have := hb.size
    exact .inr (by omega)
/-- The row is another one; it is laid into the index. -/
theorem ix_set {w w' : World} {g : Nat} {r : Option Nat} {xs ys : List It} {v v' : Value} (hI : Ix w g r xs) (hv : Blk w g 27 #[v]) (hr : v.ownBlock = r) (hp : RowP w 0 v ys v' w') (hs : Srt ys) (hl : ys.length ≤ 1000) : IxP w g r ys (w'.setCell ⟨g, 0, none⟩ v') := by
  obtain ⟨h1, h2, h3⟩ := hp
  have hng : ¬ v.ownBlock = some g := fun e => hI.ne (hr.symm.trans e)
  have hv' : Blk w' g 27 #[v] := h2.blk hv hng
  have hne : ∀ k, v'.ownBlock = some k → k ≠ g := fun k hk e => by
    subst e
    rcases h3 k hk with h4 | h4
    · exact hng h4
    · have := hI.lt
      omega
  refine ⟨v'.ownBlock, ⟨⟨v', Blk.set_ hv' 0 v', h1.far hne 0 v', rfl⟩, fun e => hne g e rfl, hs, hl⟩, ?_, fun k hk => ?_⟩
  · refine (h2.mono (S' := fun k => k = g ∨ r = some k) (fun k hk => .inl (.inr (hr ▸ hk)))).trans (Kept.setCell w' ⟨g, 0, none⟩ v') (fun k hk => .inl (.inl hk))
  · rcases h3 k hk with h4 | h4
    · exact .inl (hr ▸ h4)
    · exact .inr h4
theorem Remove_any {w : World} {g : Nat} {r : Option Nat} {xs : List It} {yt : Int} {yk : ByteArray} (h : Ix w g r xs) :
    Calls Try.prog 14 #[.pointer (some ⟨g, 0, none⟩), .int .i64 yt, .string yk] w fun e w' => e = .returned (.tuple #[]) ∧ IxP w g r (delL (sought yt yk) xs) w' := by
  have hf := find_any (yt := yt) (yk := yk) h
  have HF := hide hf
  have HX := hide h
  clear hf h
  cases hh : hasL (sought yt yk) xs
  · rw [del_none HX.out.srt hh]
    rw [hh] at HF
    clear hh
    go_enter Try.func14, Try.ntmps14
    go_wp2_with (go_at_call 20; refine HF.out.mono ?_; rintro e w2 ⟨rfl, hb⟩; have HBB := hide hb; clear hb)
    go_end0
    exact ⟨rfl, r, HX.out.below HBB.out, Kept.of_below HBB.out, fun k hk => .inl hk⟩
  · obtain ⟨hp, hb, hg⟩ := has_pos HX.out.srt hh
    rw [hh] at HF
    rw [← del_there HX.out.srt hh]
    have HSR : Hid (Srt (xs.take (posL (sought yt yk) xs) ++ xs.drop (posL (sought yt yk) xs + 1))) := hide (by rw [del_there HX.out.srt hh]; exact srt_del HX.out.srt)
    have HLN : Hid ((xs.take (posL (sought yt yk) xs) ++ xs.drop (posL (sought yt yk) xs + 1)).length ≤ 1000) := hide (by rw [del_there HX.out.srt hh]; exact Nat.le_trans (delL_length _ _) HX.out.few)
    clear hg hh hb
    generalize posL (sought yt yk) xs = m at *
    obtain ⟨ys, hys⟩ : ∃ ys, xs.take m ++ xs.drop (m + 1) = ys := ⟨_, rfl⟩
    rw [hys] at HSR HLN ⊢
    have HYS := hide hys
    clear hys
    have HP := hide hp
    have HFW := hide (show xs.length ≤ 100000 by have := HX.out.few; omega)
    have hw1 : IntKind.i64.wrap ((m : Int) + 1) = (m : Int) + 1 := by have := HX.out.few; rw [IntKind.wrap_i64]; omega
    have hm1 : (m : Int) + 1 ≤ 9223372036854775807 := by have := HX.out.few; omega
    clear hp
    go_enter Try.func14, Try.ntmps14
    go_wp2_with (first
      | (go_at_call 20; refine HF.out.mono ?_; rintro e w2 ⟨rfl, hb⟩; have HX2 := hide (HX.out.below hb); obtain ⟨v, hv, hit, hr⟩ := HX2.out.v; have g0 := hv.cell 0 _ rfl; have HIT := hide hit; have HV := hide hv; have HR := hide hr; have HBB := hide hb; clear hb hv hit hr)
      | (go_at_call 22; refine (delete_any HIT.out HFW.out HP.out).mono ?_; rintro e w3 ⟨v', rfl, hrp⟩; rw [HYS.out] at hrp; have HRP := hide hrp; obtain ⟨hi3, hk3, hb3⟩ := hrp; have HI3 := hide hi3; have V3 := hk3.blk HV.out (fun e => HX2.out.ne (HR.out.symm.trans e)); have g1 := V3.cell 0 _ rfl; have g2 := V3.frozen 0; have HV3 := hide V3; obtain ⟨A9, c9, rfl⟩ := Its.form HI3.out; clear hi3 hk3 hb3 V3))
    go_end0
    exact ⟨rfl, IxP.from_ HBB.out (ix_set HX2.out HV.out HR.out HRP.out HSR.out HLN.out)⟩
end Go.Proofs.Ytkcomkllnhdohaa
