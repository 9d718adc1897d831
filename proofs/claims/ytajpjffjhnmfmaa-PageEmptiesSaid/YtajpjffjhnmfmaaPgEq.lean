/-
  Two pages compared: the same one.
-/
import Derived.Test.YtajpjffjhnmfmaaPage
import Derived.Laws.StructEq
import Derived.ChangeKeysEq
namespace Go.Proofs.Ytajpjffjhnmfmaa
open Go.RowKit

set_option linter.unusedSimpArgs false
set_option linter.unusedVariables false

theorem eq_slots (d : Nat) (a b c x y : ByteArray) (W : World) : (Op.equalIn (d + 2) 33 (.agg #[.string a, .string b, .string c, .string x, .string y]) (.agg #[.string a, .string b, .string c, .string x, .string y])).run Try.prog W = .ok true W := by
  have h0 : (Try.prog.info? 9).map (·.size) = some 1 := by kernel_rfl
  obtain ⟨i, hi, _⟩ := Option.map_eq_some_iff.1 h0
  have hc : Try.prog.cellsOf 9 = 1 := by kernel_rfl
  rw [run_equalIn_array W (d + 1) _ _ Try.underlying33 hi, hc]
  simp [go_sem, Op.eqItems, List.range, List.range.loop]
theorem page_fields : Try.prog.underlying 35 = some (.struct (Try.prog.fieldsOf 35)) ∧ Try.prog.stoodInHeld 35 = false := ⟨by kernel_rfl, by kernel_rfl⟩
theorem eq_page (m t n : Int) (a b c x y : ByteArray) (W : World) :
    (binOp .eql 35 (.agg #[.int .u64 m, .int .i64 t, .int .i64 n, .string a, .string b, .string c, .string x, .string y]) (.agg #[.int .u64 m, .int .i64 t, .int .i64 n, .string a, .string b, .string c, .string x, .string y])).run Try.prog W = .ok (.bool true) W := by
  have hs := eq_slots 9997 a b c x y W
  rw [run_eql_struct, run_equalIn_struct W 9999 35 _ _ page_fields.1 page_fields.2]
  have hf : (Try.prog.fieldsOf 35).toList.map (fun f => (f.name, f.type, f.offset)) = [("Mark", 23, 0), ("Tenant", 3, 1), ("Number", 3, 2), ("slots", 33, 3)] := by kernel_rfl
  generalize (Try.prog.fieldsOf 35).toList = fs at *
  obtain ⟨f0, _, rfl, h0, hf⟩ := List.map_eq_cons_iff.1 hf
  obtain ⟨f1, _, rfl, h1, hf⟩ := List.map_eq_cons_iff.1 hf
  obtain ⟨f2, _, rfl, h2, hf⟩ := List.map_eq_cons_iff.1 hf
  obtain ⟨f3, _, rfl, h3, hf⟩ := List.map_eq_cons_iff.1 hf
  obtain rfl := List.map_eq_nil_iff.1 hf
  simp only [Prod.mk.injEq] at h0 h1 h2 h3
  obtain ⟨a0, b0, c0⟩ := h0
  obtain ⟨a1, b1, c1⟩ := h1
  obtain ⟨a2, b2, c2⟩ := h2
  obtain ⟨a3, b3, c3⟩ := h3
  have hs' : (Op.equalIn 9999 33 (.agg #[.string a, .string b, .string c, .string x, .string y]) (.agg #[.string a, .string b, .string c, .string x, .string y])).run Try.prog W = .ok true W := hs
  simp [Op.eqFields, a0, a1, a2, a3, b0, b1, b2, b3, c0, c1, c2, c3, go_sem, hs']
theorem neq_page (m t n : Int) (a b c x y : ByteArray) (W : World) :
    (binOp .neq 35 (.agg #[.int .u64 m, .int .i64 t, .int .i64 n, .string a, .string b, .string c, .string x, .string y]) (.agg #[.int .u64 m, .int .i64 t, .int .i64 n, .string a, .string b, .string c, .string x, .string y])).run Try.prog W = .ok (.bool false) W := by
  have h := eq_page m t n a b c x y W
  rw [run_eql_struct] at h
  rw [run_neq_struct]
  generalize (Op.equalIn 10000 35 (.agg #[.int .u64 m, .int .i64 t, .int .i64 n, .string a, .string b, .string c, .string x, .string y]) (.agg #[.int .u64 m, .int .i64 t, .int .i64 n, .string a, .string b, .string c, .string x, .string y])).run Try.prog W = r at *
  cases r with
  | ok u w' =>
    simp only [Result.andThen] at h ⊢
    injection h with h1 h2
    injection h1 with h1
    subst h1 h2
    rfl
  | halt u w' => simp [Result.andThen] at h
theorem page_guard : Try.prog.eqGuardType Try.prog.depth 35 = false := by kernel_rfl
/-- The comparison as an operation of a region. -/
theorem exec_eq_page {o : Oper} {ac : Act} {w : World} {p q : Operand} {tw : TypeId} {m t n : Int} {a b c x y : ByteArray} (ho : o.op = .binOp .eql 35 p q tw) (hp : ac.eval p = .agg #[.int .u64 m, .int .i64 t, .int .i64 n, .string a, .string b, .string c, .string x, .string y]) (hq : ac.eval q = .agg #[.int .u64 m, .int .i64 t, .int .i64 n, .string a, .string b, .string c, .string x, .string y]) :
    (execOp ac.eval o).run Try.prog w = .ok (.value (.bool true)) w := by
  have h1 := run_eqGuard_agg (P := Try.prog) w .eql 35 p q #[.int .u64 m, .int .i64 t, .int .i64 n, .string a, .string b, .string c, .string x, .string y] #[.int .u64 m, .int .i64 t, .int .i64 n, .string a, .string b, .string c, .string x, .string y] page_guard
  have h2 := eq_page m t n a b c x y w
  unfold execOp
  simp only [ho, hp, hq, Sem.run_bind, h1, h2, Result.andThen_ok, Sem.run_pure]
theorem exec_neq_page {o : Oper} {ac : Act} {w : World} {p q : Operand} {tw : TypeId} {m t n : Int} {a b c x y : ByteArray} (ho : o.op = .binOp .neq 35 p q tw) (hp : ac.eval p = .agg #[.int .u64 m, .int .i64 t, .int .i64 n, .string a, .string b, .string c, .string x, .string y]) (hq : ac.eval q = .agg #[.int .u64 m, .int .i64 t, .int .i64 n, .string a, .string b, .string c, .string x, .string y]) :
    (execOp ac.eval o).run Try.prog w = .ok (.value (.bool false)) w := by
  have h1 := run_eqGuard_agg (P := Try.prog) w .neq 35 p q #[.int .u64 m, .int .i64 t, .int .i64 n, .string a, .string b, .string c, .string x, .string y] #[.int .u64 m, .int .i64 t, .int .i64 n, .string a, .string b, .string c, .string x, .string y] page_guard
  have h2 := neq_page m t n a b c x y w
  unfold execOp
  simp only [ho, hp, hq, Sem.run_bind, h1, h2, Result.andThen_ok, Sem.run_pure]
end Go.Proofs.Ytajpjffjhnmfmaa
