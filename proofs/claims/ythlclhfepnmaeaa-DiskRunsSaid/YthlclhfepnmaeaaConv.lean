/-
  Bytes as strings: 'string(b)'; 'string(b) + string(make([]byte, n))'.
-/
import Derived.Test.YthlclhfepnmaeaaApp
import Derived.Test.YthlclhfepnmaeaaOwn
import Derived.Test.YthlclhfepnmaeaaPhase
import Derived.Laws.BytesArg
import Derived.Laws.IdiomStrings
import Derived.Laws.Concat
namespace Go.Proofs.Ythlclhfepnmaeaa
open Go.RowKit

/-- 'string(b)'. -/
theorem conv_rd {w : World} {A : Option Addr} {c : Nat} {l : List UInt8} (h : Rd w (.slice A l.length c) (u8s l)) : (convert 33 9 (.slice A l.length c)).run Try.prog w = .ok (.string ⟨l.toArray⟩) w := by
  rcases A with _ | a
  · obtain ⟨A, c', he, hc, hA⟩ := h
    injection he with e1 e2 e3
    subst e1
    rcases Nat.eq_zero_or_pos l.length with h0 | hpos
    · obtain rfl := List.eq_nil_of_length_eq_zero h0
      exact run_convert_bytes_nil w 33 5 Try.underlying33 Try.underlying5 0 c 9 Try.underlying9
    · obtain ⟨_, _, h, _⟩ := hA (by rw [u8s_length]; exact hpos)
      cases h
  · refine run_convert_bytes_back w 33 9 5 a c l Try.underlying33 Try.underlying5 Try.underlying9 fun j hj => ?_
    obtain ⟨A, c', he, hc, hA⟩ := h
    injection he with e1 e2 e3
    subst e1
    obtain ⟨b, o, e, hb, hcell⟩ := hA (by rw [u8s_length]; omega)
    injection e with e
    subst e
    rw [addr_add]
    exact hcell j _ (u8s_get l j hj)
theorem conv_blk {w : World} {g : Nat} {t : TypeId} {l : List UInt8} (n : Nat) (hn : l.length = n) (h : Blk w g t (blk8 l)) : (convert 33 9 (.slice (some ⟨g, 0, none⟩) n n)).run Try.prog w = .ok (.string ⟨l.toArray⟩) w := by
  subst hn
  exact conv_rd (h.rd8 rfl (Nat.le_refl _))
theorem conv_rdn {w : World} {A : Option Addr} {n c : Nat} {l : List UInt8} (hn : l.length = n) (h : Rd w (.slice A n c) (u8s l)) : (convert 33 9 (.slice A n c)).run Try.prog w = .ok (.string ⟨l.toArray⟩) w := by
  subst hn
  exact conv_rd h
theorem str_app (a b : List UInt8) : (⟨a.toArray⟩ : ByteArray) ++ ⟨b.toArray⟩ = ⟨(a ++ b).toArray⟩ := by
  apply ByteArray.ext
  rw [ByteArray.data_append]
  simp
theorem run_add_bytes (a b : List UInt8) (h : a.length + b.length ≤ 1000000) (w : World) : (Op.stringOp .add (⟨a.toArray⟩ : ByteArray) ⟨b.toArray⟩).run Try.prog w = .ok (.string ⟨(a ++ b).toArray⟩) w := by
  rw [← str_app]
  refine run_string_add_sum w _ _ ?_
  show a.toArray.size + b.toArray.size ≤ _
  simp
  omega
theorem size_set (w : World) (p : Addr) (u : Value) : (w.setCell p u).heap.size = w.heap.size := by simp [World.setCell]
/-- 'make([]byte, n)'. -/
theorem exec_make {o : Oper} {a : Act} {w : World} {x : Operand} {n : Nat} (ho : o.op = .makeSlice 33 x x) (hx : a.eval x = .int .i64 (n : Int)) (hn : n ≤ 281474976710656) :
    (execOp a.eval o).run Try.prog w = .ok (.value (.slice (some ⟨w.heap.size, 0, none⟩) n n)) (w.alloc (.cells (blk8 (List.replicate n 0)) 5)) := by
  have hr := run_make8 (P := Try.prog) 33 5 Try.underlying33 info8 n hn w
  unfold execOp
  simp only [ho, hx, Sem.run_bind, hr, Result.andThen_ok, Sem.run_pure]
/-- '+' of two strings. -/
theorem exec_add {o : Oper} {a : Act} {w : World} {x y : Operand} {l m : List UInt8} (ho : o.op = .binOp .add 9 x y 9) (hx : a.eval x = .string ⟨l.toArray⟩) (hy : a.eval y = .string ⟨m.toArray⟩) (h : l.length + m.length ≤ 1000000) :
    (execOp a.eval o).run Try.prog w = .ok (.value (.string ⟨(l ++ m).toArray⟩)) w := by
  have hr := run_add_bytes l m h w
  unfold execOp
  simp only [ho, hx, hy]
  generalize (⟨l.toArray⟩ : ByteArray) = p at *
  generalize (⟨m.toArray⟩ : ByteArray) = q at *
  simp [eqGuard, binOp, hr, Result.andThen]
end Go.Proofs.Ythlclhfepnmaeaa
