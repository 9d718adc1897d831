/-
  Contract of package index: Put, in the place of an item of that key.
-/
import Derived.Test.YtkcomkllnhdohaaOps
import Derived.StillTailTactics
namespace Go.Proofs.Ytkcomkllnhdohaa
open Go.RowKit
set_option maxRecDepth 20000
set_option linter.unusedSimpArgs false
set_option linter.unusedVariables false

theorem same_sought (x : It) : (sought x.t x.key).same x := ⟨rfl, rfl⟩
/-- Behind find, in Put: the item's box, and the index. -/
structure PutM (w : World) (g : Nat) (r : Option Nat) (xs : List It) (x : It) (w2 : World) : Prop where
  ix : Ix w2 g r xs
  box : Blk w2 w.heap.size 32 x.vc
  bel : Below w.heap.size w w2
theorem putm_any {w : World} {g : Nat} {r : Option Nat} {xs : List It} {x : It} (h : Ix w g r xs) :
    PutM w g r xs x (w.alloc (.cells x.vc 32)) ∧ ∀ W, PutM w g r xs x W → Calls Try.prog 20 #[.pointer (some ⟨g, 0, none⟩), .int .i64 x.t, .string x.key] W fun e w' => e = .returned (.tuple #[.int .i64 (posL x xs : Nat), .bool (hasL x xs)]) ∧ PutM w g r xs x w' := by
  refine ⟨⟨h.below ((Below.refl _ w).alloc (Nat.le_refl _) _), heap_new w _, (Below.refl _ w).alloc (Nat.le_refl _) _⟩, fun W hW => ?_⟩
  refine (find_any (yt := x.t) (yk := x.key) hW.ix).mono ?_
  rintro e w' ⟨rfl, hb⟩
  rw [posL_key (same_sought x), (hasL_key (same_sought x) xs).1]
  exact ⟨rfl, hW.ix.below hb, hW.box.below hb, hW.bel.trans (hb.mono hW.bel.size)⟩
theorem put_turned {w2 : World} {g k m c : Nat} {r : Option Nat} {xs : List It} {x : It} (hI : Ix w2 g r xs) (hit : Its 32 w2 0 (.slice (some ⟨k, 0, none⟩) xs.length c) xs) (hv : Blk w2 g 27 #[.slice (some ⟨k, 0, none⟩) xs.length c]) (hr : (Value.slice (some ⟨k, 0, none⟩) xs.length c).ownBlock = r) (hs : Srt (xs.set m x)) (hm : m < xs.length) (hf : xs.length ≤ 1000) :
    IxP w2 g r (xs.set m x) (((((w2.setCell ⟨k, m * 5, none⟩ (.int .i64 x.t)).setCell ⟨k, m * 5 + 1, none⟩ (.string x.key)).setCell ⟨k, m * 5 + 2, none⟩ (.string x.val)).setCell ⟨k, m * 5 + 3, none⟩ (.int .i64 x.p)).setCell ⟨k, m * 5 + 4, none⟩ (.int .i64 x.s)).drew := by
  have hr2 : r = some k := hr.symm
  subst hr2
  have hk : ¬ k = g := fun e => hI.ne (by rw [e])
  have h1 := Its.put hit rfl hm x
  have hk6 := set5_kept w2 k (m * 5) x
  unfold set5 at h1 hk6
  generalize ((((w2.setCell ⟨k, m * 5, none⟩ (.int .i64 x.t)).setCell ⟨k, m * 5 + 1, none⟩ (.string x.key)).setCell ⟨k, m * 5 + 2, none⟩ (.string x.val)).setCell ⟨k, m * 5 + 3, none⟩ (.int .i64 x.p)).setCell ⟨k, m * 5 + 4, none⟩ (.int .i64 x.s) = w3 at *
  have hk5 := hk6.drew
  refine ⟨some k, ⟨⟨_, hk5.blk hv (fun e => hk e.symm), h1, rfl⟩, hI.ne, hs, by rw [List.length_set]; exact hf⟩, ?_, fun k hk => .inl hk⟩
  exact hk5.mono (fun j hj => .inl (.inr (congrArg some hj).symm))
theorem put_over {w : World} {g : Nat} {r : Option Nat} {xs : List It} {x : It} (h : Ix w g r xs) (hh : hasL x xs = true) :
    Calls Try.prog 12 #[.pointer (some ⟨g, 0, none⟩), x.v] w fun e w' => e = .returned (.tuple #[]) ∧ IxP w g r (putL x xs) w' := by
  obtain ⟨hm1, hf⟩ := putm_any (x := x) h
  rw [hh] at hf
  obtain ⟨hp, hp1, hp2⟩ := has_pos h.srt hh
  clear hp1 hp2
  rw [← put_there h.srt hh]
  have HSR : Hid (Srt (xs.set (posL x xs) x)) := hide (by rw [put_there h.srt hh]; exact srt_put h.srt)
  have HFW := hide h.few
  have HFI := hide hf
  have HM := hide hm1
  clear hf hm1 h hh
  generalize posL x xs = m at *
  have HP := hide hp
  have HI := hide (show (0 : Int) ≤ (m : Int) ∧ (m : Int) < (xs.length : Int) by omega)
  clear hp
  have hw := item_cells HM.out.box
  obtain ⟨c0, c1, c2, c3, c4⟩ := hw
  have HFI2 := HFI.out _ HM.out
  unfold It.vc at HM HFI2 c0 c1 c2 c3 c4
  have HFI3 := hide HFI2
  clear HFI2 HFI
  unfold It.v
  go_enter Try.func12, Try.ntmps12
  go_wp2_with (go_at_call 20; refine HFI3.out.mono ?_; rintro e w2 ⟨rfl, hm2⟩; obtain ⟨v, hv, hit, hr⟩ := hm2.ix.v; obtain ⟨k, c, rfl, _, _⟩ := hit.block (by have := HP.out; omega); have g0 := hv.cell 0 _ rfl; have HIT := hide hit; have HV := hide hv; have HR := hide hr; have HM2 := hide hm2; obtain ⟨d0, d1, d2, d3, d4⟩ := item_cells hm2.box; have q0 := HI.out.1; have q1 := HI.out.2; have i0 := hit.cells rfl (List.getElem?_eq_getElem HP.out); obtain ⟨i0, i1, i2, i3, i4⟩ := i0; have z0 := hit.frozen rfl (m * 5); have z1 := hit.frozen rfl (m * 5 + 1); have z2 := hit.frozen rfl (m * 5 + 2); have z3 := hit.frozen rfl (m * 5 + 3); have z4 := hit.frozen rfl (m * 5 + 4); clear hv hit hr hm2)
  go_still_tail 7, (by kernel_rfl)
  change wpList _ _ _ _ _ w2.drew
  go_wp2
  refine bodyPost_ret (results_none rfl _ _ _) rfl ?_
  exact ⟨rfl, IxP.from_ HM2.out.bel (put_turned HM2.out.ix HIT.out HV.out HR.out HSR.out HP.out HFW.out)⟩
end Go.Proofs.Ytkcomkllnhdohaa
