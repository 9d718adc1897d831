/-
  Contract of slices.Delete from a place to the end, of changes in a row of the call's own.
-/
import Derived.Test.YtoifghofkjomnaaSpec12
import Derived.Deep.RegionLaw
namespace Go.Proofs.Ytoifghofkjomnaa
open Go.RowKit Go.Lib
set_option maxRecDepth 100000
set_option linter.unusedSimpArgs false
set_option linter.unusedVariables false

/-- clear, of some elements of a block that is known whole. -/
theorem clear_rowK {P : Program} (w : World) (t e ty : TypeId) (z : Value) (g o n c : Nat) (cur : Array Value) (bt : TypeId) (zs : List Value) (hu : P.underlying t = some (.slice e)) (hz : ∀ w, (zeroValue e).run P w = .ok z w) (hn : n ≠ 0)
    (hg : w.heap[g]? = some (.cells cur bt (0, 0))) (hzs : (Builtin.zeroCells z.cells n).toList = zs) (hfit : o + zs.length ≤ cur.size) (h1 : ∀ v ∈ zs, v.oneCell' = true) :
    (Builtin.clear_ #[t] ty #[.slice (some ⟨g, o, none⟩) n c]).run P w = .ok (.tuple #[]) (w.setRow g (cur.toList.take o ++ zs ++ cur.toList.drop (o + zs.length)).toArray) := by
  have hst := run_storeCells_at P g o bt zs 0 cur w hg (by simpa using hfit) h1
  simp only [Nat.add_zero] at hst
  cases n with
  | zero => exact absurd rfl hn
  | succ n => simp [Builtin.clear_, run_underlying hu, hz, hzs, hst]
theorem sliceC : Try.prog.underlying 28 = some (.slice (Try.prog.elem 28)) := by kernel_rfl
theorem sizeC (w : World) : (sizeOf (Try.prog.elem 28)).run Try.prog w = .ok 3 w := by kernel_rfl
def hiC (A : Option Addr) (c k : Nat) : Option Addr := if c = k then A else A.map (·.add (k * 3))
theorem run_highC (A : Option Addr) (n c k : Nat) (hk : k ≤ n) (hc : n ≤ c) (w : World) : (Instr.slice 28 (.slice A n c) (some (.int .i64 (k : Int))) none none).run Try.prog w = .ok (.slice (hiC A c k) (n - k) (c - k)) w := by
  rw [run_slice_l w 28 A n c sliceC .i64 (k : Int) (by omega) (by omega), sizeC]
  simp [Result.andThen, sliced, hiC]
theorem run_lowC (A : Option Addr) (n c k : Nat) (hk : k ≤ c) (w : World) : (Instr.slice 28 (.slice A n c) none (some (.int .i64 (k : Int))) none).run Try.prog w = .ok (.slice A k c) w := run_lowK chK A n c k hk w
theorem step_append_runC {P : Program} {ops : Array Oper} {o : Oper} {a : Act} {w : World} {K : Act → World → Prop} {Q : Exit → Act → World → Prop} {E : Prop}
    (hg : o.guard = none) (d x : Operand) (dT sT : TypeId) (hop : o.op = Op.call { callee := Callee.builtin Builtin.append, args := #[d, x], argTypes := #[dT, sT] })
    (v u : Value) (hd : a.eval d = v) (hx : a.eval x = u) {v' : Value} {w' : World} (hr : (Builtin.append_ #[dT, sT] o.type #[v, u]).run P w = .ok v' w') (hK : K (a.put o.dst v') w') :
    if Region.wanted o (yielded ops a.tmps) = true then Oper.wp P o a w K Q else E := by
  have hw : Region.wanted o (yielded ops a.tmps) = true := by simp [Region.wanted, hg]
  rw [if_pos hw]
  unfold Oper.wp
  simp [execOp, hop, resolve, invoke, builtin, hd, hx, hr, Result.andThen]
  exact hK
/-- The zeros of some changes. -/
theorem zeros_one (m : Nat) : ∀ u ∈ (Builtin.zeroCells chK.z.cells m).toList, u.oneCell' = true := by
  intro u hu
  unfold Builtin.zeroCells at hu
  rw [Array.toList_map, List.mem_map] at hu
  obtain ⟨i, _, rfl⟩ := hu
  show ((#[.int .i64 0, .int .i64 0, .string ⟨#[]⟩] : Array Value)[i % 3]!).oneCell' = true
  obtain h | h | h : i % 3 = 0 ∨ i % 3 = 1 ∨ i % 3 = 2 := by omega
  all_goals (rw [h]; rfl)
theorem zeros_len (m : Nat) : (Builtin.zeroCells chK.z.cells m).toList.length = m * 3 := by
  rw [Array.length_toList, size_zeroCells]
  rfl
/-- All from place k on deleted, in place. -/
theorem delete_from {w : World} {v : Value} {es : List Ch} {n k : Nat} (h : chK.Row w v es) (hl : es.length ≤ 100000) (hn : es.length = n) (hk : k ≤ n) :
    Calls Try.prog 19 #[v, .int .i64 (k : Int), .int .i64 (n : Int)] w fun e w' => ∃ A c, e = .returned (.slice A k c) ∧ chK.Row w' (.slice A k c) (es.take k) ∧ Kept (fun k => v.ownBlock = some k) w w' ∧ ∀ k2, (Value.slice A k c).ownBlock = some k2 → v.ownBlock = some k2 := by
  rcases Nat.lt_or_ge k n with hlt | hge
  · obtain ⟨g, cap, cur, rfl, hg, hnc, hcm, hcs, htk⟩ := h.open (by omega)
    clear h
    have hcs : cur.size = cap * 3 := hcs
    have htk : cur.toList.take (es.length * 3) = chK.flat es := htk
    have hcm2 : cap ≤ 9223372036854775807 := by unfold maxLen at hcm; omega
    obtain ⟨i0, hi0, hz0, hzs, hzb⟩ := info_parts chK.info
    have hzs : i0.size = 3 := hzs
    have hgl : g < w.heap.size := (Array.getElem?_eq_some_iff.1 hg).1
    have hcl : cur.toList.length = cap * 3 := by rw [Array.length_toList, hcs]
    rw [hn] at hnc htk hl
    obtain ⟨c1, hc1⟩ : ∃ c1 : Array Value, c1 = (cur.toList.take (k * i0.size) ++ ([] : List Value) ++ cur.toList.drop (k * i0.size + ([] : List Value).length)).toArray := ⟨_, rfl⟩
    have hc1e : c1 = cur := by
      rw [hc1, List.append_nil, List.length_nil, Nat.add_zero, List.take_append_drop]
    obtain ⟨zs, hzz⟩ : ∃ zs, (Builtin.zeroCells chK.z.cells (n - k)).toList = zs := ⟨_, rfl⟩
    have hzl : zs.length = (n - k) * 3 := by rw [← hzz, zeros_len]
    have hz1 : ∀ u ∈ zs, u.oneCell' = true := by rw [← hzz]; exact zeros_one _
    obtain ⟨c2, hc2⟩ : ∃ c2 : Array Value, c2 = (cur.toList.take (k * 3) ++ zs ++ cur.toList.drop (k * 3 + zs.length)).toArray := ⟨_, rfl⟩
    have hz2 : c2.toList.length = cap * 3 := by
      rw [hc2]
      simp only [List.toList_toArray, List.length_append, List.length_take, List.length_drop, hcl, hzl]
      omega
    have hap : ∀ W : World, W.heap = w.heap → ∀ ty, (Builtin.append_ #[28, 28] ty #[.slice (some ⟨g, 0, none⟩) k cap, .slice (hiC (some ⟨g, 0, none⟩) cap n) 0 (cap - n)]).run Try.prog W = .ok (.slice (some ⟨g, 0, none⟩) k cap) (W.setRow g cur) := fun W hW ty => by
      conv => rhs; rw [← hc1e, hc1]
      obtain ⟨a, ha⟩ : ∃ a : Addr, hiC (some ⟨g, 0, none⟩) cap n = some a := by
        unfold hiC
        split
        · exact ⟨_, rfl⟩
        · exact ⟨_, rfl⟩
      rw [ha]
      exact run_append_room (P := Try.prog) W 28 ty 42 i0 Try.underlying28 hi0 g k cap cur (by rw [hW]; exact hg) a 0 (cap - n) [] (by simp) (by simp) (by simp) (by omega) (by rw [hzs, hcs, List.length_nil]; omega)
    have hcr : ∀ W : World, W.heap = (w.setRow g cur).heap → ∀ ty c, (Builtin.clear_ #[28] ty #[.slice (some ⟨g, k * 3, none⟩) (n - k) c]).run Try.prog W = .ok (.tuple #[]) (W.setRow g c2) := fun W hW ty c => by
      rw [hc2]
      exact clear_rowK W 28 42 ty _ g (k * 3) (n - k) c cur 42 zs Try.underlying28 chK.zero (by omega) (by rw [hW]; exact setRow_heap w g cur cur _ _ hg) hzz (by rw [hcs, hzl]; omega) hz1
    have hfin : ∀ W : World, W.heap = (w.setRow g c2).heap → W.os = w.os → W.tape = w.tape → W.output = w.output → chK.Row W (.slice (some ⟨g, 0, none⟩) k cap) (es.take k) ∧ Kept (fun q => (Value.slice (some ⟨g, 0, none⟩) n cap).ownBlock = some q) w W := by
      intro W hW h1 h2 h3
      have hlen : (es.take k).length = k := by rw [List.length_take]; omega
      refine ⟨?_, ⟨h1, h2, h3, by rw [hW, setRow_size]; exact Nat.le_refl _, fun q hq hqn => ?_⟩⟩
      · unfold Kd.Row
        rw [hlen]
        refine ⟨by rw [kf_length, hlen], .inr ⟨g, cap, c2, rfl, Nat.zero_le _, by rw [hW]; exact setRow_heap w g cur c2 _ _ hg, by omega, hcm, by rw [← Array.length_toList, hz2]; rfl, ?_⟩⟩
        have e0 : cur.toList.take (k * 3) = chK.flat (es.take k) := by
          have e := kf_take chK es k
          have htk2 := htk
          rw [← hn] at htk2
          rw [← htk2] at e
          have e2 : (cur.toList.take (es.length * 3)).take (k * 3) = chK.flat (es.take k) := e
          rw [← e2, List.take_take]
          congr 1
          omega
        show c2.toList.take (k * 3) = _
        rw [hc2, List.toList_toArray, e0, List.append_assoc]
        refine List.take_left' ?_
        rw [kf_length, hlen]
        rfl
      · rw [hW]
        exact setRow_other w g q c2 (fun e => hqn (by rw [e]; rfl))
    have hs1 := fun W => run_highC (some ⟨g, 0, none⟩) n cap n (by omega) (by omega) W
    have hs2 := fun W => run_lowC (some ⟨g, 0, none⟩) n cap k (by omega) W
    rw [Nat.sub_self] at hs1
    have hb0 : (0 : Int) ≤ (n : Int) := by omega
    have hb1 : ¬ ((k : Int) = (n : Int)) := by omega
    have hb2 : (k : Int) ≤ (n : Int) := by omega
    have hb3 : (0 : Int) ≤ (k : Int) := by omega
    have hb4 : ¬ (cap = k) := by omega
    have hb5 : ¬ (k = n) := by omega
    have hb6 : k ≤ n := by omega
    have hb8 : (n : Int) ≤ (cap : Int) := by omega
    have hb9 : n ≤ cap := by omega
    rw [hn]
    have HF := hide hfin
    have HA := hide hap
    have HC := hide hcr
    clear hfin hap hcr hc1 hc1e hc2 hz2 hcl hcs htk hg hi0 hz0 hzs hzb hcm hn hzl hz1 hzz hlt
    go_enter Try.func19, Try.ntmps19
    go_wp2
    go_region_law (refine step_append_runC rfl (.tmp 22) (.tmp 25) 28 28 rfl (.slice (some ⟨g, 0, none⟩) k cap) (.slice (hiC (some ⟨g, 0, none⟩) cap n) 0 (cap - n)) (by simp [Act.eval, Act.put]) (by simp [Act.eval, Act.put]) (HA.out w.drew rfl 28) ?_)
    have h2 := HC.out (w.drew.setRow g cur) rfl
    go_wp2
    go_ret
    have hfn := HF.out ((w.drew.setRow g cur).setRow g c2) (by rw [setRow_setRow]; rfl) rfl rfl rfl
    exact ⟨_, _, rfl, hfn.1, hfn.2, fun k hk => hk⟩
  · obtain rfl : k = n := by omega
    obtain ⟨A, c, rfl⟩ := h.form
    have hc := h.cap.2
    have hm : c ≤ 9223372036854775807 ∨ c = 0 := by
      rcases h.2 with ⟨e, _⟩ | ⟨g, cap, cur, e, _, _, _, hm, _⟩
      · injection e with _ _ e; exact .inr e
      · injection e with _ _ e; subst e; unfold maxLen at hm; exact .inl (by omega)
    have HH := hide h
    have HT : Hid (es.take k = es) := hide (List.take_of_length_le (by omega))
    rw [hn] at hc ⊢
    have hb0 : (0 : Int) ≤ (k : Int) := by omega
    have hb8 : (k : Int) ≤ (c : Int) := by omega
    have hb9 : k ≤ c := hc
    have hm2 : c ≤ 9223372036854775807 := by omega
    have HN := hide hn
    clear h hm hl hn hk hge
    go_enter Try.func19, Try.ntmps19
    go_wp2
    go_ret
    refine ⟨A, c, rfl, ?_, Kept.refl _ _, fun k hk => hk⟩
    have := HH.out
    rw [HN.out] at this
    rw [HT.out]
    exact this
end Go.Proofs.Ytoifghofkjomnaa
