/-
  Contracts: a copy of bytes; a number laid behind bytes.
-/
import Derived.Test.YtofnldmbokdkbaaApp
import Derived.Test.YtofnldmbokdkbaaOwn
import Derived.Test.YtofnldmbokdkbaaNum
import Derived.Lib.SliceRun
namespace Go.Proofs.Ytofnldmbokdkbaa
open Go.RowKit

/-- A row of the call's own, of bytes. -/
def Mine (w : World) (base : Nat) (v : Value) (l : List UInt8) : Prop := w.ownsRow base 5 1 v l.length (u8s l)
theorem Mine.rd {w : World} {base : Nat} {v : Value} {l : List UInt8} (h : Mine w base v l) : Rd w v (u8s l) := own_rd h
theorem Mine.form {w : World} {base : Nat} {v : Value} {l : List UInt8} (h : Mine w base v l) : ∃ A c, v = .slice A l.length c := own_form h

/-- A copy. -/
theorem clone_any (v : Value) (l : List UInt8) (w : World) (hm : l.length ≤ 70368744177664) (hv : Rd w v (u8s l)) :
    Calls Try.prog 32 #[v] w fun e w' => ∃ v', e = .returned v' ∧ Mine w' w.heap.size v' l ∧ Below w.heap.size w w' := by
  obtain ⟨A, c, rfl, hc, hA⟩ := id hv
  rw [u8s_length] at hA hc hv ⊢
  have q22 : ∀ (w : World) (a : Option Addr) (n c n' c' : Nat), (binOp .eql 25 (.slice a n c) (.slice none n' c')).run Try.prog w = .ok (.bool a.isNone) w := fun w a n c n' c' => Lib.run_eql_slice_nil w _ _ a n c n' c' Try.underlying25
  obtain ⟨i0, hi, hz0, hz1, hz2⟩ := info_parts info8
  rcases A with _ | ad
  · have h0 : l = [] := by
      rcases Nat.eq_zero_or_pos l.length with h | h
      · exact List.eq_nil_of_length_eq_zero h
      · obtain ⟨_, _, h, _⟩ := hA h; cases h
    subst h0
    clear hA hv hc
    go_enter Try.func32, Try.ntmps32
    go_wp2
    go_ret
    exact ⟨_, rfl, own_nil _ _ _, Below.refl _ _⟩
  · have hl := hide (show 0 + (u8s l).length ≤ maxLen by rw [u8s_length]; unfold maxLen; omega)
    have hl2 := hide (show (0 + (u8s l).length) * 1 ≤ 140737488355328 by rw [u8s_length]; omega)
    have hr := hide (hv.alloc (.cells #[] 5))
    have ho := hide (show (w.alloc (.cells #[] 5)).ownsRow w.heap.size 5 1 (.slice (some ⟨w.heap.size, 0, none⟩) 0 0) 0 [] from
      ⟨rfl, .inr ⟨w.heap.size, 0, #[], rfl, Nat.le_refl _, heap_new _ _, Nat.le_refl _, by unfold maxLen; omega, rfl, rfl⟩⟩)
    have hb := hide (show w.heap.size ≤ (w.alloc (.cells #[] 5)).heap.size by simp)
    have hbe := hide ((Below.refl w.heap.size w).alloc (Nat.le_refl _) (.cells #[] 5))
    go_enter Try.func32, Try.ntmps32
    clear hA hv
    go_wp2_with (at_builtin; refine wpList_append_rd rfl (.tmp 5) (.tmp 6) 25 rfl (base := w.heap.size) 5 i0 (.int .u8 0) 1 Try.underlying25 hi hz0 hz1 hz2 rfl (.slice (some ⟨w.heap.size, 0, none⟩) 0 0) 0 [] rfl ho.out (.slice (some ad) l.length c) (u8s l) rfl hr.out (oneCell_u8s l) hl.out hl2.out hb.out ?_; intro v2 w2 hown hgrow hat_)
    go_ret
    refine ⟨_, rfl, ?_, hbe.out.grown hgrow (by simp) ?_⟩
    · rw [Nat.zero_add, u8s_length, List.nil_append] at hown; exact hown
    · intro k hk; simp [Value.ownBlock] at hk; omega
end Go.Proofs.Ytofnldmbokdkbaa
