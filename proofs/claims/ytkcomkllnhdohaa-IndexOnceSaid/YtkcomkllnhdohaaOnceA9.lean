/-
  IndexOnce: a call laid ahead of those that came in; how many bytes these take.
-/
import Derived.Test.YtkcomkllnhdohaaAppIn9
import Derived.ArgAppend
namespace Go.Proofs.Ytkcomkllnhdohaa
open Go.ChangeShapes Go.WideShapes Go.ChangeAt Go.RowKit Go.Shelf Go.Deep
set_option maxRecDepth 20000
set_option linter.unusedSimpArgs false
set_option linter.unusedVariables false

theorem infoC : (Try.prog.info? 34).map (fun i => (i.zero, i.size, i.bytes)) = some (some (.agg #[.int .i64 0, .int .i64 0, .string ⟨#[]⟩, .string ⟨#[]⟩, .int .i64 0, .int .i64 0]), 6, 64) := by kernel_rfl
def flatC (cs : List ICall) : List Value := cs.flatMap ICall.cells
theorem ICall.cells_length (x : ICall) : x.cells.length = 6 := rfl
theorem flatC_length : ∀ cs : List ICall, (flatC cs).length = cs.length * 6
  | [] => rfl
  | x :: cs => by
    show (x.cells ++ flatC cs).length = _
    rw [List.length_append, flatC_length cs, ICall.cells_length, List.length_cons]
    omega
theorem flatC_at : ∀ (cs : List ICall) (j : Nat) (x : ICall) (i : Nat), cs[j]? = some x → i < 6 → (flatC cs)[j * 6 + i]? = x.cells[i]?
  | [], j, x, i, h, _ => by simp at h
  | a :: cs, 0, x, i, h, hi => by
    obtain rfl : a = x := by simpa using h
    show (a.cells ++ flatC cs)[_]? = _
    rw [List.getElem?_append_left (by rw [ICall.cells_length]; omega), Nat.zero_mul, Nat.zero_add]
  | a :: cs, j + 1, x, i, h, hi => by
    show (a.cells ++ flatC cs)[_]? = _
    rw [List.getElem?_append_right (by rw [ICall.cells_length]; omega), ICall.cells_length, show (j + 1) * 6 + i - 6 = j * 6 + i by omega]
    exact flatC_at cs j x i (by simpa using h) hi
theorem flatC_cells {w : World} {b o : Nat} : ∀ {cs : List ICall}, (∀ j x, cs[j]? = some x → ∀ i u, x.cells[i]? = some u → w.cell? ⟨b, o + j * 6 + i, none⟩ = some u) → ∀ j u, (flatC cs)[j]? = some u → w.cell? ⟨b, o + j, none⟩ = some u := by
  intro cs h j u hj
  have hl := (List.getElem?_eq_some_iff.1 hj).1
  rw [flatC_length] at hl
  have hq : j / 6 < cs.length := by omega
  obtain ⟨x, hx⟩ : ∃ x, cs[j / 6]? = some x := ⟨_, List.getElem?_eq_getElem hq⟩
  have hr : j % 6 < 6 := Nat.mod_lt _ (by omega)
  have e := flatC_at cs (j / 6) x (j % 6) hx hr
  rw [show j / 6 * 6 + j % 6 = j by omega] at e
  have := h (j / 6) x hx (j % 6) u (by rw [← e]; exact hj)
  rw [show o + j / 6 * 6 + j % 6 = o + j by omega] at this
  exact this
theorem run_append_calls {w : World} {g cap B : Nat} {A : Option Addr} {x : ICall} {cs : List ICall}
    (hx : ∀ i u, x.cells[i]? = some u → w.cell? ⟨g, i, none⟩ = some u) (hxo : (Lit.int .i64 x.k).wf = true ∧ x.it.Ok) (hg : g < w.heap.size)
    (hv : ICallRow w B (.slice A cs.length cap) cs) (hby : cs.length * 64 ≤ 140737488351232) :
    ∃ v' w', (Builtin.append_ #[22, 22] 22 #[.slice (some ⟨g, 0, none⟩) 1 1, .slice A cs.length cap]).run Try.prog w = .ok v' w' ∧ ICallRow w' w'.heap.size v' (x :: cs) ∧ Below w.heap.size w w' := by
  have hi0 := infoC
  cases hinf : Try.prog.info? 34 with
  | none => rw [hinf] at hi0; cases hi0
  | some inf =>
    rw [hinf] at hi0
    have hz : inf.zero = some (.agg #[.int .i64 0, .int .i64 0, .string ⟨#[]⟩, .string ⟨#[]⟩, .int .i64 0, .int .i64 0]) := congrArg Prod.fst (Option.some.inj hi0)
    have h2 := congrArg Prod.snd (Option.some.inj hi0)
    have hs6 : inf.size = 6 := congrArg Prod.fst h2
    have hb64 : inf.bytes = 64 := congrArg Prod.snd h2
    obtain ⟨⟨A', cap', e, hlc, hcells⟩, hall⟩ := hv
    injection e with e1 e2 e3
    subst e1 e3
    have hall2 : ∀ y ∈ x :: cs, (Lit.int .i64 y.k).wf = true ∧ y.it.Ok := fun y hy => by
      rcases List.mem_cons.1 hy with h | h
      · rw [h]; exact hxo
      · exact hall y h
    by_cases h0 : cs.length = 0
    · obtain rfl : cs = [] := List.eq_nil_of_length_eq_zero h0
      refine ⟨.slice (some ⟨g, 0, none⟩) 1 1, w, ?_, ⟨⟨_, 1, rfl, Nat.le_refl _, fun _ => ⟨g, 0, rfl, hg, fun j y hj i u hu => ?_⟩⟩, hall2⟩, Below.refl _ _⟩
      · cases A with
        | none => simp [Builtin.append_, run_underlying Try.underlying22, sizeOf, typeInfo, hinf, hs6, Builtin.lenOf, Builtin.firstCells, storeCells, Result.andThen]
        | some a => simp [Builtin.append_, run_underlying Try.underlying22, sizeOf, typeInfo, hinf, hs6, Builtin.lenOf, Builtin.firstCells, storeCells, loadCells, loadCellsFrom, Result.andThen]
      · cases j with
        | zero =>
          obtain rfl : x = y := by simpa using hj
          have := hx i u hu
          rw [show 0 + 0 * 6 + i = i by omega]
          exact this
        | succ j => simp at hj
    · obtain ⟨b, o, rfl, hb, hc⟩ := hcells (by omega)
      have hadd : ∀ j, (⟨b, o, none⟩ : Addr).add j = ⟨b, o + j, none⟩ := fun j => by simp [Addr.add]
      have hadg : ∀ j, (⟨g, 0, none⟩ : Addr).add j = ⟨g, j, none⟩ := fun j => by simp [Addr.add]; try omega
      obtain ⟨v', w', hrun, ⟨hlen, hrow⟩, hgr⟩ := run_append_arg_grows (P := Try.prog) w 22 22 34 inf _ 6 64 Try.underlying22 hinf hz hs6 hb64 rfl (by omega) ⟨g, 0, none⟩ 1 1 x.cells rfl (fun j u hj => by rw [hadg]; exact hx j u hj)
        ⟨b, o, none⟩ cs.length cap (flatC cs) (flatC_length cs) (fun j u hj => by rw [hadd]; exact flatC_cells hc j u hj) (by omega) (by unfold maxLen; omega) (by omega)
      refine ⟨v', w', hrun, ?_, (Below.refl _ _).grown hgr (Nat.le_refl _) (fun k hk => by cases hk)⟩
      rcases hrow with ⟨_, h⟩ | ⟨g', cap2, cur, rfl, hg', hh, hcap, _, hcur, htk⟩
      · omega
      · refine ⟨⟨_, cap2, by rw [List.length_cons, Nat.add_comm], by rw [List.length_cons]; omega, fun _ => ⟨g', 0, rfl, (Array.getElem?_eq_some_iff.1 hh).1, fun j y hj i u hu => ?_⟩⟩, hall2⟩
        have hjl := (List.getElem?_eq_some_iff.1 hj).1
        have hil : i < 6 := by have := (List.getElem?_eq_some_iff.1 hu).1; rwa [ICall.cells_length] at this
        have hat : (flatC (x :: cs))[j * 6 + i]? = some u := (flatC_at (x :: cs) j y i hj hil).trans hu
        have htk2 : cur.toList.take ((1 + cs.length) * 6) = flatC (x :: cs) := htk
        rw [← htk2, List.getElem?_take] at hat
        split at hat
        · have hcl : w'.cell? ⟨g', j * 6 + i, none⟩ = cur[j * 6 + i]? := by
            unfold World.cell?
            dsimp only
            rw [hh]
            rfl
          rw [show 0 + j * 6 + i = j * 6 + i by omega, hcl, ← Array.getElem?_toList]
          exact hat
        · cases hat
section
variable {w : World} {B : Nat} {H : Type} {enc : TypeId × Value → H} {P : Program} {base b0 : Nat} {spare : Nat → Bool} {held : Bool} {r : Reach}
theorem calls_reach {t e : TypeId} {v : Value} {d : DataW H} {ps : List MemPlace} {cs : List ICall} (ht : P.underlying t = some (.slice e)) (hb : P.bytesOf e = 64)
    (hval : Value.okWide P w r b0 t v) (hd : DataW.Trod enc P w base spare held t v d ps) (hwt : ∀ n ∈ d.weights P t, n ≤ reachBytes) (hr : ICallRow w B v cs) : cs.length * 64 ≤ 140737488351232 := by
  obtain ⟨⟨A, c, hv, _⟩, _⟩ := hr
  obtain ⟨a0, len, cap, rfl⟩ := okWide_slice ht hval
  injection hv with _ hv2 _
  subst hv2
  obtain ⟨fuel, hf⟩ := hd
  have hf' : DataW.trod enc P w base spare held fuel t [.slice a0 cs.length cap] = some (d, ps) := by simpa [Value.cells] using hf
  rcases Go.Deep.open_slice ht hf' with ⟨h0', _⟩ | ⟨a, len', cap', m, n, D, Pl, h0', _, hlc, hcm, hm, hx, hi'⟩
  · injection h0' with h0'
    injection h0' with _ h2 _
    rw [h2]
    decide
  · injection h0' with h0'
    injection h0' with e1 e2 e3
    subst e1 e2 e3
    have hlm : cs.length ≤ m := by rw [hm]; split <;> omega
    have hdd : d = .slice ((List.range cs.length).map D) ((List.range (m - cs.length)).map fun j => D (cs.length + j)) := congrArg Prod.fst hx
    have h1 := hwt (m * 64) (by
      rw [hdd]
      simp only [DataW.weights, ht, List.mem_cons, List.length_map, List.length_range, hb]
      refine .inl ?_
      congr 1
      omega)
    have h2 : m * 64 ≤ 140737488351232 := h1
    omega
end
end Go.Proofs.Ytkcomkllnhdohaa
