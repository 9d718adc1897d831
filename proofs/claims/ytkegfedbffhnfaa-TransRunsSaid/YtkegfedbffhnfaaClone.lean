/-
  Contracts of slices.Clone and of slices.Delete (of the last one), of changes.
-/
import Derived.Test.YtkegfedbffhnfaaTb
import Derived.Deep.RegionLaw
namespace Go.Proofs.Ytkegfedbffhnfaa
open Go.RowKit Go.Lib
set_option maxRecDepth 100000
set_option linter.unusedSimpArgs false
set_option linter.unusedVariables false

/-- clear, of some elements of a block that is known whole. -/
theorem clear_rowK {P : Program} (w : World) (t e ty : TypeId) (z : Value) (g o n c : Nat) (cur : Array Value) (bt : TypeId) (zs : List Value) (hu : P.underlying t = some (.slice e)) (hz : ∀ w, (zeroValue e).run P w = .ok z w) (hn : n ≠ 0)
    (hg : w.heap[g]? = some (.cells cur bt (0, 0))) (hzs : (Builtin.zeroCells z.cells n).toList = zs) (hfit : o + zs.length ≤ cur.size) (h1 : ∀ v ∈ zs, v.oneCell' = true) :
    (Builtin.clear_ #[t] ty #[.slice (some ⟨g, o, none⟩) n c]).run P w = .ok (.tuple #[]) (w.setRow g (cur.toList.take o ++ zs ++ cur.toList.drop (o + zs.length)).toArray) := by
  have hst := run_storeCells_at P g o bt zs 0 cur w hg (by simpa using hfit) h1
  simp only [Nat.add_zero] at hst
  cases n with
  | zero => exact absurd rfl hn
  | succ n => simp [Builtin.clear_, run_underlying hu, hz, hzs, hst]
theorem sliceC : Try.prog.underlying 35 = some (.slice (Try.prog.elem 35)) := by kernel_rfl
theorem sizeC (w : World) : (sizeOf (Try.prog.elem 35)).run Try.prog w = .ok 3 w := by kernel_rfl
def hiC (A : Option Addr) (c k : Nat) : Option Addr := if c = k then A else A.map (·.add (k * 3))
theorem run_highC (A : Option Addr) (n c k : Nat) (hk : k ≤ n) (hc : n ≤ c) (w : World) : (Instr.slice 35 (.slice A n c) (some (.int .i64 (k : Int))) none none).run Try.prog w = .ok (.slice (hiC A c k) (n - k) (c - k)) w := by
  rw [run_slice_l w 35 A n c sliceC .i64 (k : Int) (by omega) (by omega), sizeC]
  simp [Result.andThen, sliced, hiC]
theorem run_lowC (A : Option Addr) (n c k : Nat) (hk : k ≤ c) (w : World) : (Instr.slice 35 (.slice A n c) none (some (.int .i64 (k : Int))) none).run Try.prog w = .ok (.slice A k c) w := run_lowK chK A n c k hk w
theorem step_append_runC {P : Program} {ops : Array Oper} {o : Oper} {a : Act} {w : World} {K : Act → World → Prop} {Q : Exit → Act → World → Prop} {E : Prop}
    (hg : o.guard = none) (d x : Operand) (dT sT : TypeId) (hop : o.op = Op.call { callee := Callee.builtin Builtin.append, args := #[d, x], argTypes := #[dT, sT] })
    (v u : Value) (hd : a.eval d = v) (hx : a.eval x = u) {v' : Value} {w' : World} (hr : (Builtin.append_ #[dT, sT] o.type #[v, u]).run P w = .ok v' w') (hK : K (a.put o.dst v') w') :
    if Region.wanted o (yielded ops a.tmps) = true then Oper.wp P o a w K Q else E := by
  have hw : Region.wanted o (yielded ops a.tmps) = true := by simp [Region.wanted, hg]
  rw [if_pos hw]
  unfold Oper.wp
  simp [execOp, hop, resolve, invoke, builtin, hd, hx, hr, Result.andThen]
  exact hK
/-- The last one deleted, in place. -/
theorem delete_last {w : World} {v : Value} {es : List Ch} {i : Nat} (h : chK.Row w v es) (hl : es.length ≤ 100000) (hi : es.length = i + 1) :
    Calls Try.prog 26 #[v, .int .i64 (i : Int), .int .i64 ((i : Int) + 1)] w fun e w' => ∃ v', e = .returned v' ∧ chK.Row w' v' (es.take i) ∧ Kept (fun k => v.ownBlock = some k) w w' ∧ ∀ k, v'.ownBlock = some k → v.ownBlock = some k := by
  obtain ⟨g, cap, cur, rfl, hg, hnc, hcm, hcs, htk⟩ := h.open (by omega)
  clear h
  have hcs : cur.size = cap * 3 := hcs
  have htk : cur.toList.take (es.length * 3) = chK.flat es := htk
  have hcm2 : cap ≤ 9223372036854775807 := by unfold maxLen at hcm; omega
  obtain ⟨i0, hi0, hz0, hzs, hzb⟩ := info_parts chK.info
  have hzs : i0.size = 3 := hzs
  have hgl : g < w.heap.size := (Array.getElem?_eq_some_iff.1 hg).1
  have hcl : cur.toList.length = cap * 3 := by rw [Array.length_toList, hcs]
  obtain ⟨c1, hc1⟩ : ∃ c1 : Array Value, c1 = (cur.toList.take (i * i0.size) ++ ([] : List Value) ++ cur.toList.drop (i * i0.size + ([] : List Value).length)).toArray := ⟨_, rfl⟩
  have hc1e : c1 = cur := by
    rw [hc1, List.append_nil, List.length_nil, Nat.add_zero, List.take_append_drop]
  obtain ⟨c2, hc2⟩ : ∃ c2 : Array Value, c2 = (cur.toList.take (i * 3) ++ ([.int .i64 0, .int .i64 0, .string ⟨#[]⟩] : List Value) ++ cur.toList.drop (i * 3 + 3)).toArray := ⟨_, rfl⟩
  have hz2 : c2.toList.length = cap * 3 := by
    rw [hc2]
    simp only [List.toList_toArray, List.length_append, List.length_take, List.length_drop, hcl, List.length_cons, List.length_nil]
    omega
  have hap : ∀ W : World, W.heap = w.heap → ∀ ty, (Builtin.append_ #[35, 35] ty #[.slice (some ⟨g, 0, none⟩) i cap, .slice (hiC (some ⟨g, 0, none⟩) cap (i + 1)) 0 (cap - (i + 1))]).run Try.prog W = .ok (.slice (some ⟨g, 0, none⟩) i cap) (W.setRow g cur) := fun W hW ty => by
    conv => rhs; rw [← hc1e, hc1]
    obtain ⟨a, ha⟩ : ∃ a : Addr, hiC (some ⟨g, 0, none⟩) cap (i + 1) = some a := by
      unfold hiC
      split
      · exact ⟨_, rfl⟩
      · exact ⟨_, rfl⟩
    rw [ha]
    exact run_append_room (P := Try.prog) W 35 ty 31 i0 Try.underlying35 hi0 g i cap cur (by rw [hW]; exact hg) a 0 (cap - (i + 1)) [] (by simp) (by simp) (by simp) (by omega) (by rw [hzs, hcs, List.length_nil]; omega)
  have hcr : ∀ W : World, W.heap = (w.setRow g cur).heap → ∀ ty c, (Builtin.clear_ #[35] ty #[.slice (some ⟨g, i * 3, none⟩) 1 c]).run Try.prog W = .ok (.tuple #[]) (W.setRow g c2) := fun W hW ty c => by
    rw [hc2]
    exact clear_rowK W 35 31 ty _ g (i * 3) 1 c cur 31 [.int .i64 0, .int .i64 0, .string ⟨#[]⟩] Try.underlying35 chK.zero (by decide) (by rw [hW]; exact setRow_heap w g cur cur _ _ hg) (by kernel_rfl) (by rw [hcs]; simp only [List.length_cons, List.length_nil]; omega)
      (fun u hu => by simp at hu; rcases hu with rfl | rfl | rfl <;> rfl)
  have hfin : ∀ W : World, W.heap = (w.setRow g c2).heap → W.os = w.os → W.tape = w.tape → W.output = w.output → chK.Row W (.slice (some ⟨g, 0, none⟩) i cap) (es.take i) ∧ Kept (fun k => (Value.slice (some ⟨g, 0, none⟩) es.length cap).ownBlock = some k) w W := by
    intro W hW h1 h2 h3
    have hlen : (es.take i).length = i := by rw [List.length_take]; omega
    refine ⟨?_, ⟨h1, h2, h3, by rw [hW, setRow_size]; exact Nat.le_refl _, fun k hk hn => ?_⟩⟩
    · unfold Kd.Row
      rw [hlen]
      refine ⟨by rw [kf_length, hlen], .inr ⟨g, cap, c2, rfl, Nat.zero_le _, by rw [hW]; exact setRow_heap w g cur c2 _ _ hg, by omega, hcm, by rw [← Array.length_toList, hz2]; rfl, ?_⟩⟩
      have e0 : cur.toList.take (i * 3) = chK.flat (es.take i) := by
        have e := kf_take chK es i
        rw [← htk] at e
        have e2 : (cur.toList.take (es.length * 3)).take (i * 3) = chK.flat (es.take i) := e
        rw [← e2, List.take_take]
        congr 1
        omega
      show c2.toList.take (i * 3) = _
      rw [hc2, List.toList_toArray, e0, List.append_assoc]
      refine List.take_left' ?_
      rw [kf_length, hlen]
      rfl
    · rw [hW]
      exact setRow_other w g k c2 (fun e => hn (by rw [e]; rfl))
  have hs1 := fun W => run_highC (some ⟨g, 0, none⟩) (i + 1) cap (i + 1) (by omega) (by omega) W
  have hs2 := fun W => run_lowC (some ⟨g, 0, none⟩) (i + 1) cap i (by omega) W
  rw [Int.natCast_add, Int.natCast_one, Nat.sub_self] at hs1
  have hb0 : (0 : Int) ≤ (i : Int) + 1 := by omega
  have hb1 : ¬ ((i : Int) = (i : Int) + 1) := by omega
  have hb2 : (i : Int) ≤ (i : Int) + 1 := by omega
  have hb4 : ¬ (cap = i) := by omega
  have hb7 : i + 1 - i = 1 := by omega
  have hb8 : (i : Int) + 1 ≤ (cap : Int) := by omega
  have htn : ((i : Int) + 1).toNat = i + 1 := by omega
  rw [hi] at hfin ⊢
  rw [hi] at hnc hl
  have HF := hide hfin
  have HA := hide hap
  have HC := hide hcr
  clear hfin hap hcr hc1 hc1e hc2 hz2 hcl hcs htk hg hi0 hz0 hzs hzb hcm hi
  go_enter Try.func26, Try.ntmps26
  go_wp2
  go_region_law (refine step_append_runC rfl (.tmp 22) (.tmp 25) 35 35 rfl (.slice (some ⟨g, 0, none⟩) i cap) (.slice (hiC (some ⟨g, 0, none⟩) cap (i + 1)) 0 (cap - (i + 1))) (by simp [Act.eval, Act.put]) (by simp [Act.eval, Act.put]) (HA.out w.drew rfl 35) ?_)
  have h2 := HC.out (w.drew.setRow g cur) rfl
  go_wp2
  go_ret
  have hfn := HF.out ((w.drew.setRow g cur).setRow g c2) (by rw [setRow_setRow]; rfl) rfl rfl rfl
  exact ⟨_, rfl, hfn.1, hfn.2, fun k hk => hk⟩
theorem kf_inv {α : Type} (K : Kd α) : ∀ (es : List α) (q : Nat) (u : Value), (K.flat es)[q]? = some u → ∃ j x i, q = j * K.m + i ∧ es[j]? = some x ∧ (K.cells x)[i]? = some u
  | [], q, u, h => by simp [Kd.flat] at h
  | a :: es, q, u, h => by
    rw [kf_cons] at h
    rcases Nat.lt_or_ge q (K.cells a).length with hlt | hge
    · rw [List.getElem?_append_left hlt] at h
      exact ⟨0, a, q, by simp, rfl, h⟩
    · rw [List.getElem?_append_right hge] at h
      obtain ⟨j, x, i, e, h1, h2⟩ := kf_inv K es _ u h
      refine ⟨j + 1, x, i, ?_, h1, h2⟩
      rw [K.len] at e hge
      rw [Nat.add_mul, Nat.one_mul]
      omega
/-- A copy. -/
theorem clone_src {w : World} {A : Option Addr} {c : Nat} {es : List Ch} (hs : ∀ a, A = some a → ∀ j u, (chK.flat es)[j]? = some u → w.cell? (a.add j) = some u) (h0 : A = none → es = []) (hl : es.length ≤ 100000) :
    Calls Try.prog 28 #[.slice A es.length c] w fun e w' => ∃ v', e = .returned v' ∧ chK.Row w' v' es ∧ Below w.heap.size w w' ∧ ∀ k, v'.ownBlock = some k → w.heap.size ≤ k := by
  cases A with
  | none =>
    obtain rfl := h0 rfl
    have hnil : ∀ W, (binOp .eql 35 (.slice none 0 c) (.slice none 0 0)).run Try.prog W = .ok (.bool true) W := fun W => Lib.run_eql_slice_nil W 35 _ _ _ _ _ _ Try.underlying35
    clear hs h0 hl
    rw [List.length_nil]
    go_enter Try.func28, Try.ntmps28
    go_wp2
    go_ret
    exact ⟨_, rfl, Kd.Row.nil _ _, Below.refl _ _, fun k h => by cases h⟩
  | some a =>
    have hs := hs a rfl
    obtain ⟨i0, hi0, hz0, hzs, hzb⟩ := info_parts chK.info
    have own0 : (w.alloc (.cells #[] 31)).ownsRow w.heap.size 31 3 (.slice (some ⟨w.heap.size, 0, none⟩) 0 0) 0 [] := ⟨rfl, .inr ⟨w.heap.size, 0, #[], rfl, Nat.le_refl _, heap_new w _, Nat.le_refl _, by decide, rfl, rfl⟩⟩
    obtain ⟨v', w', hrun, h6, h7, _, h8⟩ := run_append_own_at (P := Try.prog) (w := w.alloc (.cells #[] 31)) w.heap.size 35 35 31 i0 _ 3 32 Try.underlying35 hi0 hz0 hzs hzb rfl (by omega) _ 0 _ own0 a es.length c (chK.flat es) (by rw [kf_length]; rfl)
      (fun j u hu => by
        have hc := hs j u hu
        exact (World.cell?_alloc_lt w _ _ (block_lt_of_cell hc)).trans hc) (kf_one chK es) (by simp only [maxLen]; omega) (by omega) (by simp)
    rw [Nat.zero_add, List.nil_append] at h6
    have hnil : ∀ W, (binOp .eql 35 (.slice (some a) es.length c) (.slice none 0 0)).run Try.prog W = .ok (.bool false) W := fun W => Lib.run_eql_slice_nil W 35 _ _ _ _ _ _ Try.underlying35
    have hK : Below w.heap.size w w' := ((Below.refl _ w).alloc (Nat.le_refl _) _).trans ((Kept.of_grown h7).below (by simp) (fun k e => by have e2 : w.heap.size = k := Option.some.inj e; omega))
    have hnew : ∀ k, v'.ownBlock = some k → w.heap.size ≤ k := fun k e => (World.ownsRow.lt h6 k e).1
    have H6 : Hid (chK.Row w' v' es) := hide (h6.mono (Nat.zero_le _))
    have HK := hide hK
    have HN := hide hnew
    clear h6 h7 h8 hK own0 hi0 hz0 hzs hzb hnew hs h0
    go_enter Try.func28, Try.ntmps28
    go_wp2_with (at_builtin; refine Lib.wpList_append_run _ rfl (.tmp 5) (.tmp 6) _ _ rfl _ _ rfl rfl _ _ hrun ?_)
    go_ret
    exact ⟨v', rfl, H6.out, HK.out, HN.out⟩
/-- Of a row of one's own. -/
theorem Kd.Row.src {w : World} {A : Option Addr} {c n : Nat} {es : List Ch} (h : chK.Row w (.slice A n c) es) : (∀ a, A = some a → ∀ j u, (chK.flat es)[j]? = some u → w.cell? (a.add j) = some u) ∧ (A = none → es = []) := by
  rcases Nat.eq_zero_or_pos es.length with h0 | hpos
  · obtain rfl := List.eq_nil_of_length_eq_zero h0
    exact ⟨fun a _ j u hu => by simp [Kd.flat] at hu, fun _ => rfl⟩
  · obtain ⟨g, cap, cur, e, _⟩ := h.open hpos
    injection e with e1 e2 e3
    subst e1 e2 e3
    refine ⟨fun a ea j u hu => ?_, fun e => by cases e⟩
    obtain rfl := Option.some.inj ea
    obtain ⟨q, x, i, rfl, h1, h2⟩ := kf_inv chK es j u hu
    rw [addr_add, Nat.zero_add]
    exact h.cells h1 i u h2
abbrev ChRow (w : World) (B : Nat) (v : Value) (rs : List Ch) : Prop := RecRow 3 Ch.cells Ch.Ok w B v rs
/-- Of one that came in. -/
theorem chrow_src {w : World} {A : Option Addr} {c n B : Nat} {es : List Ch} (h : ChRow w B (.slice A n c) es) : n = es.length ∧ (∀ a, A = some a → ∀ j u, (chK.flat es)[j]? = some u → w.cell? (a.add j) = some u) ∧ (A = none → es = []) := by
  obtain ⟨⟨A0, c0, e, _, h1⟩, _⟩ := h
  injection e with e1 e2 e3
  subst e1 e2 e3
  refine ⟨rfl, fun a ea j u hu => ?_, fun e => ?_⟩
  · obtain ⟨q, x, i, rfl, h2, h3⟩ := kf_inv chK es j u hu
    obtain ⟨b, o, e2, _, hc⟩ := h1 (by have := (List.getElem?_eq_some_iff.1 h2).1; omega)
    rw [ea] at e2
    obtain rfl := Option.some.inj e2
    rw [addr_add, ← Nat.add_assoc]
    exact hc q x h2 i u h3
  · rcases Nat.eq_zero_or_pos es.length with h0 | hpos
    · exact List.eq_nil_of_length_eq_zero h0
    · obtain ⟨b, o, e2, _⟩ := h1 hpos
      rw [e] at e2
      cases e2
end Go.Proofs.Ytkegfedbffhnfaa
