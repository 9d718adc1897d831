/-
  append([]Record{Check}, all...), its run; what a disk's crash makes of a lane that is told.
-/
import Derived.Test.YtlmoiepbnnfebaaAgn
import Derived.Laws.OwnMore
namespace Go.Proofs.Ytlmoiepbnnfebaa
open Go.RowKit
set_option maxRecDepth 20000
set_option linter.unusedSimpArgs false
set_option linter.unusedVariables false

theorem joined {w : World} {X : Nat → Prop} {v : Value} {es : List Re} (h : Gath w X v es) (hl : es.length ≤ 100000) :
    ∃ v' w', (Builtin.append_ #[34, 34] 34 #[.slice (some ⟨w.heap.size, 0, none⟩) 1 1, v]).run Try.prog (w.alloc (.cells #[.int .i64 1, .int .i64 0, .int .i64 0, .int .i64 0, .string ⟨#[]⟩, .string ⟨#[]⟩, .string ⟨#[]⟩, .slice none 0 0] 33)) = .ok v' w' ∧ RecsAt w' (fun _ => True) v' (checkR :: es.map (·.1)) ∧ Below w.heap.size w w' := by
  have hb := below_new w (.cells #[.int .i64 1, .int .i64 0, .int .i64 0, .int .i64 0, .string ⟨#[]⟩, .string ⟨#[]⟩, .string ⟨#[]⟩, .slice none 0 0] 33)
  have own1 : (w.alloc (.cells #[.int .i64 1, .int .i64 0, .int .i64 0, .int .i64 0, .string ⟨#[]⟩, .string ⟨#[]⟩, .string ⟨#[]⟩, .slice none 0 0] 33)).ownsRow w.heap.size 33 8 (.slice (some ⟨w.heap.size, 0, none⟩) 1 1) 1 (rcell (checkR, .slice none 0 0)) :=
    ⟨rfl, .inr ⟨w.heap.size, 1, #[.int .i64 1, .int .i64 0, .int .i64 0, .int .i64 0, .string ⟨#[]⟩, .string ⟨#[]⟩, .string ⟨#[]⟩, .slice none 0 0], rfl, Nat.le_refl _, heap_alloc_new w _, Nat.le_refl _, by simp only [maxLen]; omega, rfl, rfl⟩⟩
  obtain ⟨i, hi⟩ : ∃ i, Try.prog.info? 33 = some i := by
    have := infoRec3
    cases hq : Try.prog.info? 33 with
    | none => rw [hq] at this; cases this
    | some i => exact ⟨i, rfl⟩
  have hinf := infoRec3
  rw [hi] at hinf
  simp only [Option.map_some, Option.some.injEq, Prod.mk.injEq] at hinf
  obtain ⟨hz, hs, hby⟩ := hinf
  have hk := h.below hb
  rcases hk.own.2 with ⟨rfl, h0⟩ | ⟨g, cap, cur, rfl, hg, hh, hn, hcap, hsz, htake⟩
  · obtain rfl : es = [] := List.eq_nil_of_length_eq_zero h0
    refine ⟨_, _, run_append_owned_none (P := Try.prog) (w := w.alloc (.cells #[.int .i64 1, .int .i64 0, .int .i64 0, .int .i64 0, .string ⟨#[]⟩, .string ⟨#[]⟩, .string ⟨#[]⟩, .slice none 0 0] 33)) w.heap.size 34 34 33 i 8 Try.underlying34 hi _ 1 _ own1, ?_, hb⟩
    exact (gath_check w (fun _ => True) trivial).recs
  · obtain ⟨v', w', hrun, h2, h3, _, h4⟩ := run_append_own_at (P := Try.prog) (w := w.alloc (.cells #[.int .i64 1, .int .i64 0, .int .i64 0, .int .i64 0, .string ⟨#[]⟩, .string ⟨#[]⟩, .string ⟨#[]⟩, .slice none 0 0] 33)) w.heap.size 34 34 33 i _ 8 104 Try.underlying34 hi hz hs hby rfl (by omega) _ 1 _ own1 ⟨g, 0, none⟩ es.length cap (es.flatMap rcell) hk.own.1
      (fun j u hu => by
        rw [addr_add, Nat.zero_add]
        unfold World.cell?
        simp only [hh]
        rw [← htake, List.getElem?_take] at hu
        split at hu
        · simpa using hu
        · cases hu)
      (fun u hu => by
        obtain ⟨e, he, hu⟩ := List.mem_flatMap.1 hu
        obtain ⟨A, c, e2, _⟩ := h.nums e he
        obtain ⟨er, ev⟩ := e
        dsimp only at e2
        subst e2
        exact rcell_one _ _ _ _ u hu)
      (by simp only [maxLen]; omega) (by omega) (by simp)
    have hbb : Below w.heap.size w w' := hb.trans ((kept_grown h3).below (Nat.le_of_lt (by simp)) (fun k e => (World.ownsRow.lt own1 k e).1))
    refine ⟨v', w', hrun, ?_, hbb⟩
    have hG : Gath w' (fun _ => True) v' ((checkR, .slice none 0 0) :: es) := by
      refine ⟨?_, fun _ _ => trivial, fun e he => ?_⟩
      · obtain ⟨ha, hc⟩ := h2
        rw [Nat.add_comm] at ha hc
        refine ⟨by rw [List.flatMap_cons]; exact ha, hc.imp id ?_⟩
        rintro ⟨g', cap', cur', e1, _, e2⟩
        exact ⟨g', cap', cur', e1, Nat.zero_le _, e2⟩
      · rcases List.mem_cons.1 he with rfl | he
        · exact rin_nil _ _ _ _
        · refine (h.nums e he).keep (fun p hp _ => hbb.cell hp) hbb.size (fun k hk _ => ⟨trivial, fun e => ?_⟩)
          rcases h4 with h4 | h4
          · rw [h4] at e; injection e with e; have e : w.heap.size = k := e; omega
          · rw [h4] at e; injection e with e; rw [sz_alloc] at e; omega
    exact hG.recs
/-- An append whose run is known, be it guarded or not. -/
theorem wpList_run {P : Program} {ops : Array Oper} {rest : List Oper} {o : Oper} {a : Act} {Q : Exit → Act → World → Prop} {w : World} (hw : Region.wanted o (yielded ops a.tmps) = true) (s y : Operand) (t : TypeId)
    (ho : o.op = .call { callee := .builtin .append, args := #[s, y], argTypes := #[t, t] }) {v x : Value} (hs : a.eval s = v) (hy : a.eval y = x) {v' : Value} {w' : World} (hrun : (Builtin.append_ #[t, t] o.type #[v, x]).run P w = .ok v' w')
    (h : wpList P ops Q rest (a.put o.dst v') w') : wpList P ops Q (o :: rest) a w := by
  unfold wpList
  rw [if_pos hw]
  refine .inl ?_
  unfold Oper.wp
  simp [execOp, ho, resolve, invoke, builtin, hs, hy, hrun, Result.andThen]
  exact h
/-- A crash of the disk. -/
theorem ld_crash {w : World} {X : Nat → Prop} {dg g r n k gen s : Nat} {d : Ds} {up : Bool} {all : List Rc} (h : LiveD w X dg d g r n k gen up all s) (hk : k ≤ 400000) (mask : Nat) :
    Calls Try.prog 22 #[.pointer (some ⟨dg, 0, none⟩), .int .u64 (mask : Int)] w fun e w' => e = .returned (.tuple #[]) ∧ CrdD w' X dg (d.crash (bitOf mask)) r n k gen (all.take s) s none ∧ Out X w w' := by
  have hh := h
  obtain ⟨l, kv, gr, h1, h2, _⟩ := h
  have hm : Many w X [(dg, d)] := h1.many.more (Below.refl _ _) (fun k hk => .inl (.inl hk))
  refine (crash_many (i := 0) hm rfl (h2.small.more (by omega)) mask).mono ?_
  rintro e w' ⟨rfl, hm', ho⟩
  exact ⟨rfl, hh.crashed hm', ho⟩
end Go.Proofs.Ytlmoiepbnnfebaa
