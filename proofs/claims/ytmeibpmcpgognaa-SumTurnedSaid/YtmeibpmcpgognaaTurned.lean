/-
  The walk of SumTurned.
-/
import Derived.Test.YtmeibpmcpgognaaJoins
import Derived.Test.YtmeibpmcpgognaaApp
import Derived.BigQuiet
import Derived.Deep.AppendLies
namespace Go.Proofs.Ytmeibpmcpgognaa
open Go.RowKit Crc

theorem crc_set_other (l : List UInt8) (p : Nat) (hp : p < l.length) (x : UInt8) (hx : x ≠ l[p]) : crc (l.set p x) ≠ crc l := by
  have h1 : l.set p x = l.take p ++ x :: l.drop (p + 1) := by rw [List.set_eq_take_append_cons_drop, if_pos hp]
  have h2 : l = l.take p ++ l[p] :: l.drop (p + 1) := by
    rw [List.getElem_cons_drop hp, List.take_append_drop]
  intro e
  rw [h1] at e
  have e2 : crc (List.take p l ++ x :: List.drop (p + 1) l) = crc (l.take p ++ l[p] :: l.drop (p + 1)) := e.trans (congrArg crc h2)
  exact crc_one_other _ _ hx e2
theorem crc_swapped_other (l : List UInt8) (p : Nat) (hp : p + 1 < l.length) (hx : l[p] ≠ l[p + 1]) : crc ((l.set p l[p + 1]).set (p + 1) l[p]) ≠ crc l := by
  have h0 : l = l.take p ++ l[p] :: l[p + 1] :: l.drop (p + 2) := by
    rw [List.getElem_cons_drop hp, List.getElem_cons_drop (by omega), List.take_append_drop]
  have h1 : (l.set p l[p + 1]).set (p + 1) l[p] = l.take p ++ l[p + 1] :: l[p] :: l.drop (p + 2) := by
    generalize l[p] = a at *
    generalize l[p + 1] = b at *
    have hl : (l.take p).length = p := by rw [List.length_take]; omega
    generalize l.take p = t at *
    generalize l.drop (p + 2) = s at *
    try rw [h0]
    clear h0
    have e1 : ∀ (y : List UInt8), (t ++ y).set p b = t ++ y.set 0 b := fun y => by rw [List.set_append_right _ _ (by omega), hl, Nat.sub_self]
    have e2 : ∀ (y : List UInt8), (t ++ y).set (p + 1) a = t ++ y.set 1 a := fun y => by rw [List.set_append_right _ _ (by omega), hl, show p + 1 - p = 1 by omega]
    subst_vars
    rw [e1, e2]
    rfl
  intro e
  rw [h1] at e
  have e2 := e.trans (congrArg crc h0)
  exact crc_swap_other _ _ (fun h => hx h.symm) e2
theorem and7 (bit : Int) : ∃ m : Nat, m < 8 ∧ bits .and .i64 bit 7 = (m : Int) := by
  have h1 : bits .and .i64 bit 7 = IntKind.i64.wrap (((BitVec.ofInt 64 bit &&& BitVec.ofInt 64 7).toNat : Int)) := rfl
  have h2 : (BitVec.ofInt 64 bit &&& BitVec.ofInt 64 7).toNat < 8 := by
    rw [BitVec.toNat_and]
    have : (BitVec.ofInt 64 7).toNat = 7 := by decide
    rw [this]
    exact Nat.lt_of_le_of_lt Nat.and_le_right (by omega)
  refine ⟨_, h2, ?_⟩
  rw [h1, IntKind.wrap_i64]
  omega
/-- The byte with one bit. -/
def oneBit (m : Nat) : UInt8 := UInt8.ofNat (2 ^ m)
theorem oneBit_ne (m : Nat) (h : m < 8) : oneBit m ≠ 0 := by
  have : ∀ k : Fin 8, oneBit k.val ≠ 0 := by decide
  exact this ⟨m, h⟩
theorem xor_ne (x b : UInt8) (h : b ≠ 0) : x ^^^ b ≠ x := by
  intro e
  apply h
  have := congrArg (x ^^^ ·) e
  simpa [← UInt8.xor_assoc] using this

/-- The byte at p. -/
def x_of (l : List UInt8) (p : Nat) (h : p < l.length) : UInt8 := l[p]
theorem u8s_set (l : List UInt8) (p : Nat) (y : UInt8) : u8s (l.set p y) = (u8s l).set p (.int .u8 (y.toNat : Int)) := by simp [u8s, List.map_set]
theorem xor_bit (x : UInt8) (m : Nat) (h : m < 8) : bits .xor .u8 (x.toNat : Int) ((2 : Int) ^ m % (256 : Int)) = ((x ^^^ oneBit m).toNat : Int) := by
  have h1 : (2 : Int) ^ m % (256 : Int) = ((oneBit m).toNat : Int) := by
    have : ∀ k : Fin 8, (2 : Int) ^ k.val % (256 : Int) = ((oneBit k.val).toNat : Int) := by decide
    exact this ⟨m, h⟩
  rw [h1, u8_xor8]

set_option maxHeartbeats 1000000 in
theorem turned_walk (v : Value) (l : List UInt8) (at_ bit : Int) (w : World) (hm : l.length ≤ maxLen) (hv : Rd w v (u8s l)) (_ : (Lit.int .i64 at_).wf = true) (_ : (Lit.int .i64 bit).wf = true) :
    Calls Try.prog 4 #[v, .int .i64 at_, .int .i64 bit] w fun e w' => e = .returned (.bool true) ∧ Below w.heap.size w w' := by
  obtain ⟨A, c, rfl, hc, hA⟩ := id hv
  rw [u8s_length] at hA hc hv ⊢
  have hm' := hm
  unfold maxLen at hm
  by_cases h0 : l.length = 0
  · have hb0 : ((l.length : Int) == 0) = true := by rw [beq_iff_eq]; omega
    go_enter Try.func4, Try.ntmps4
    go_wp2_with (go_at_call 8; refine (fit_any _).mono ?_; rintro e w1 ⟨rfl, hb1⟩)
    go_ret
    exact ⟨rfl, hb1⟩
  have hb0 : ((l.length : Int) == 0) = false := by rw [beq_eq_false_iff_ne]; omega
  by_cases hlong : 300 < l.length
  · go_enter Try.func4, Try.ntmps4
    go_wp2_with (go_at_call 8; refine (fit_any _).mono ?_; rintro e w1 ⟨rfl, hb1⟩)
    go_ret
    exact ⟨rfl, hb1⟩
  have hn1 : -(l.length : Int) < Int.tmod at_ (l.length : Int) := Int.lt_tmod_of_pos at_ (by omega)
  have hn2 : Int.tmod at_ (l.length : Int) < (l.length : Int) := Int.tmod_lt_of_pos at_ (by omega)
  obtain ⟨m, hm8, hmb⟩ := and7 bit
  go_enter Try.func4, Try.ntmps4
  obtain ⟨i0, hi, hz0, hz1, hz2⟩ := info_parts info8
  obtain ⟨p, hp, hpn⟩ : ∃ p : Nat, at_.tmod ↑l.length % (l.length : Int) = (p : Int) ∧ p < l.length := by
    have h1 := Int.emod_nonneg (at_.tmod ↑l.length) (b := (l.length : Int)) (by omega)
    have h2 := Int.emod_lt_of_pos (at_.tmod ↑l.length) (b := (l.length : Int)) (by omega)
    exact ⟨(at_.tmod ↑l.length % (l.length : Int)).toNat, by omega, by omega⟩
  have hs1 := hide (show 0 + (u8s l).length ≤ maxLen by rw [u8s_length]; omega)
  have hs2 := hide (show (0 + (u8s l).length) * 1 ≤ 140737488355328 by rw [u8s_length]; omega)
  go_wp2_with (first
    | (go_at_call 8; refine (fit_any _).mono ?_; rintro e w1 ⟨rfl, hb1⟩; have hr1 := hide (hv.below hb1))
    | (at_builtin; refine wpList_append_rd rfl (.const (.slice none 0 0)) (.tmp 32) 22 rfl (base := w1.heap.size) 5 i0 (.int .u8 0) 1 Try.underlying22 hi hz0 hz1 hz2 rfl (.slice none 0 0) 0 [] rfl (own_nil _ _ _) (.slice A l.length c) (u8s l) rfl hr1.out (oneCell_u8s l) hs1.out hs2.out (Nat.le_refl _) ?_; intro v2 w2 hown hgrow hat_))
  replace hown : w2.ownsRow w1.heap.size 5 1 v2 l.length (u8s l) := by rw [Nat.zero_add, u8s_length, List.nil_append] at hown; exact hown
  obtain ⟨g, cap, rfl, hg, hgl⟩ := World.ownsRow.form hown (by omega)
  have hcp : w2.cell? ⟨g, p, none⟩ = some (.int .u8 (l[p].toNat : Int)) := by rw [hown.cellAt p (by omega)]; exact u8s_get l p hpn
  have hfp := hown.frozenAt p
  have HO := hide hown
  have HG := hide hgrow
  have HB := hide hb1
  clear hown hgrow hb1 hat_
  have hne : (x_of l p hpn) = l[p] := rfl
  have HX := hide hne
  clear hne
  rw [← HX.out] at hcp
  generalize x_of l p hpn = x at *
  have hxb := xor_bit x m hm8
  have hne := xor_ne x (oneBit m) (oneBit_ne m hm8)
  generalize x ^^^ oneBit m = y at *
  have HY := hide (show crc (l.set p y) ≠ crc l from crc_set_other l p hpn y (by rw [← HX.out]; exact hne))
  go_region
  have ho3 : (w2.setCell ⟨g, p, none⟩ (.int .u8 (y.toNat : Int))).drew.ownsRow w1.heap.size 5 1 (.slice (some ⟨g, 0, none⟩) l.length cap) l.length (u8s (l.set p y)) := by
    have := (HO.out.stored p (.int .u8 (y.toNat : Int))).1.drew
    rwa [← u8s_set] at this
  have hb3 : Below w1.heap.size w1 (w2.setCell ⟨g, p, none⟩ (.int .u8 (y.toNat : Int))).drew :=
    (((Below.refl _ _).grown HG.out (Nat.le_refl _) (by simp [Value.ownBlock])).setCell hg _).drew
  generalize (w2.setCell ⟨g, p, none⟩ (.int .u8 (y.toNat : Int))).drew = w3 at *
  have hc3 := hide (own_rd ho3)
  have hr3 := hide (Rd.below hr1.out hb3)
  have ha3 := hide (Below.trans HB.out (hb3.mono (Below.size HB.out)))
  have hmy : (l.set p y).length ≤ maxLen := by rw [List.length_set]; exact hm'
  have hs3 : w1.heap.size ≤ w3.heap.size := hb3.size
  have hneq : (w32 (crc (l.set p y)) == w32 (crc l)) = false := by rw [beq_eq_false_iff_ne]; exact fun h => HY.out (w32_inj.1 h)
  generalize l.set p y = ly at *
  clear ho3 hb3 HO HG HB HY hcp hfp hxb hne hr1 hA hv
  go_wp2_with fail
  (with_reducible refine (of_blk1 (v := .slice (some ⟨g, 0, none⟩) l.length cap) (l := ly) ?_ ?_ ?_).mono ?_)
  · exact heap_at _ _ (by simp)
  · exact hmy
  · exact hc3.out.alloc _
  rintro e w' ⟨rfl, rfl⟩
  go_wp2_with fail
  (with_reducible refine (of_blk1 (v := .slice A l.length c) (l := l) ?_ ?_ ?_).mono ?_)
  · exact heap_at _ _ (by simp)
  · exact hm'
  · exact (hr3.out.alloc _).alloc _
  rintro e w' ⟨rfl, rfl⟩
  have hr5 := hide (((hr3.out.alloc (.cells #[.slice (some ⟨g, 0, none⟩) l.length cap] 22)).alloc (.cells #[.slice A l.length c] 22)))
  have ha5 := hide (Abv.alloc (Abv.alloc (show Abv w w3 from ha3.out) (.cells #[.slice (some ⟨g, 0, none⟩) l.length cap] 22)) (.cells #[.slice A l.length c] 22))
  generalize (w3.alloc (.cells #[.slice (some ⟨g, 0, none⟩) l.length cap] 22)).alloc (.cells #[.slice A l.length c] 22) = w5 at *
  clear hc3 hr3 ha3 hs3 hmy
  go_wp2_with (at_builtin; refine wpList_append_rd rfl (.const (.slice none 0 0)) (.tmp 49) 22 rfl (base := w5.heap.size) 5 i0 (.int .u8 0) 1 Try.underlying22 hi hz0 hz1 hz2 rfl (.slice none 0 0) 0 [] rfl (own_nil _ _ _) (.slice A l.length c) (u8s l) rfl hr5.out (oneCell_u8s l) hs1.out hs2.out (Nat.le_refl _) ?_; intro v6 w6 hown hgrow hat_)
  replace hown : w6.ownsRow w5.heap.size 5 1 v6 l.length (u8s l) := by rw [Nat.zero_add, u8s_length, List.nil_append] at hown; exact hown
  obtain ⟨g6, cap6, rfl, hg6, hgl6⟩ := World.ownsRow.form hown (by omega)
  have hb6 : Below w5.heap.size w5 w6 := (Below.refl _ _).grown hgrow (Nat.le_refl _) (by simp [Value.ownBlock])
  have hcp : w6.cell? ⟨g6, p, none⟩ = some (.int .u8 (l[p].toNat : Int)) := by rw [hown.cellAt p (by omega)]; exact u8s_get l p hpn
  have hfp := hown.frozenAt p
  by_cases hpk : p + 1 < l.length
  · have hk : ((p : Int) + 1) % (l.length : Int) = (p : Int) + 1 := Int.emod_eq_of_lt (by omega) (by omega)
    rw [hk]
    have hcq : w6.cell? ⟨g6, p + 1, none⟩ = some (.int .u8 (l[p + 1].toNat : Int)) := by rw [hown.cellAt (p + 1) (by omega)]; exact u8s_get l (p + 1) hpk
    have hfq := hown.frozenAt (p + 1)
    have hsw := crc_swapped_other l p hpk
    have hset := hide (show (u8s l |>.set p (.int .u8 (l[p + 1].toNat : Int)) |>.set (p + 1) (.int .u8 (l[p].toNat : Int))) = u8s ((l.set p l[p + 1]).set (p + 1) l[p]) by rw [u8s_set, u8s_set])
    have HO := hide hown
    have hbb := hide (Abv.trans ha5.out hb6)
    have hgb := hide (Nat.le_trans (Below.size ha5.out) hg6)
    have hr6 := hide (Row.below hr5.out hb6)
    clear hk hown hgrow hat_ hbb hgb
    obtain ⟨A', c', he, _, hA⟩ := id hr6.out
    injection he with e1 e2 e3
    subst e1 e3
    rw [u8s_length] at hA
    obtain ⟨b, o, rfl, hb, hcell⟩ := hA (by omega)
    have hap := hcell p _ (u8s_get l p (by omega))
    have haq := hcell (p + 1) _ (u8s_get l (p + 1) hpk)
    have hgt : g6 ≠ b := by omega
    clear hA hcell e2
    have hk0 : ((p : Int) + 1 == 0) = false := by rw [beq_eq_false_iff_ne]; omega
    have HXY := hide (show l[p] ≠ l[p + 1] → crc ((l.set p l[p + 1]).set (p + 1) l[p]) ≠ crc l from hsw)
    generalize l[p] = x0 at *
    generalize l[p + 1] = x1 at *
    clear hsw
    go_region
    have ho7 : ((w6.setCell ⟨g6, p, none⟩ (.int .u8 (x1.toNat : Int))).setCell ⟨g6, p + 1, none⟩ (.int .u8 (x0.toNat : Int))).drew.ownsRow w5.heap.size 5 1 (.slice (some ⟨g6, 0, none⟩) l.length cap6) l.length (u8s ((l.set p x1).set (p + 1) x0)) := by
      have := ((HO.out.stored p (.int .u8 (x1.toNat : Int))).1.stored (p + 1) (.int .u8 (x0.toNat : Int))).1.drew
      rw [← u8s_set, ← u8s_set] at this
      exact this
    have hb7 : Below w5.heap.size w5 ((w6.setCell ⟨g6, p, none⟩ (.int .u8 (x1.toNat : Int))).setCell ⟨g6, p + 1, none⟩ (.int .u8 (x0.toNat : Int))).drew := ((hb6.setCell hg6 _).setCell hg6 _).drew
    have hap7 : ((w6.setCell ⟨g6, p, none⟩ (.int .u8 (x1.toNat : Int))).setCell ⟨g6, p + 1, none⟩ (.int .u8 (x0.toNat : Int))).drew.cell? ⟨b, o + p, none⟩ = some (.int .u8 (x0.toNat : Int)) := by
      rw [hb7.cell (by exact hb), ← hb6.cell (by exact hb)]; exact hap
    have haq7 : ((w6.setCell ⟨g6, p, none⟩ (.int .u8 (x1.toNat : Int))).setCell ⟨g6, p + 1, none⟩ (.int .u8 (x0.toNat : Int))).drew.cell? ⟨b, o + (p + 1), none⟩ = some (.int .u8 (x1.toNat : Int)) := by
      rw [hb7.cell (by exact hb), ← hb6.cell (by exact hb)]; exact haq
    generalize ((w6.setCell ⟨g6, p, none⟩ (.int .u8 (x1.toNat : Int))).setCell ⟨g6, p + 1, none⟩ (.int .u8 (x0.toNat : Int))).drew = w7 at *
    have hd7 := hide (own_rd ho7)
    have hr7 := hide (Rd.below hr5.out hb7)
    have ha7 := hide (Abv.trans (show Abv w w5 from ha5.out) hb7)
    clear ho7 hb7 HO hr5 hr6 hb6 hcp hcq hfp hfq hap haq ha5 hg6 hgl6
    by_cases hxy : x0 = x1
    · have ht : ((x0.toNat : Int) == (x1.toNat : Int)) = true := by rw [hxy, beq_self_eq_true]
      have HH := hide hxy
      clear hxy
      go_wp2
      go_region
      go_wp2
      go_ret
      exact ⟨rfl, by repeat (first | exact ha7.out | refine Abv.drew ?_)⟩
    · have ht : ((x0.toNat : Int) == (x1.toNat : Int)) = false := by
        rw [beq_eq_false_iff_ne]
        intro h
        exact hxy (UInt8.toNat_inj.1 (by omega))
      have hn : (w32 (crc ((l.set p x1).set (p + 1) x0)) != w32 (crc l)) = true := by
        rw [bne_iff_ne]; exact fun h => HXY.out hxy (w32_inj.1 h)
      have hml : ((l.set p x1).set (p + 1) x0).length ≤ maxLen := by rw [List.length_set, List.length_set]; exact hm'
      generalize (l.set p x1).set (p + 1) x0 = ld at *
      have i1 : (0 : Int) ≤ (p : Int) + 1 := by omega
      have i2 : (p : Int) + 1 < (l.length : Int) := by omega
      clear HXY hset hneq
      go_wp2
      go_region_held3 (fun w' => w'.cell? ⟨b, o + p, none⟩ = some (.int .u8 (x0.toNat : Int)) ∧ w'.cell? ⟨b, o + (p + 1), none⟩ = some (.int .u8 (x1.toNat : Int))) (go_keep)
        (first
          | (go_at_call 9; (with_reducible refine (of_blk1 (v := .slice (some ⟨g6, 0, none⟩) l.length cap6) (l := ld) ?_ ?_ ?_).mono ?_); (first | (refine heap_at_drew _ _ ?_; focus (simp; done)) | (refine heap_at2_drew _ _ _ ?_; focus (simp; done))); (exact hml); (exact (by repeat (first | exact hd7.out | exact hr7.out | refine Rd.drew ?_ | refine Rd.alloc ?_ _))); rintro e w' ⟨rfl, rfl⟩)
          | (go_at_call 9; (with_reducible refine (of_blk1 (v := .slice (some ⟨b, o, none⟩) l.length c) (l := l) ?_ ?_ ?_).mono ?_); (first | (refine heap_at_drew _ _ ?_; focus (simp; done)) | (refine heap_at2_drew _ _ _ ?_; focus (simp; done))); (exact hm'); (exact (by repeat (first | exact hd7.out | exact hr7.out | refine Rd.drew ?_ | refine Rd.alloc ?_ _))); rintro e w' ⟨rfl, rfl⟩))
      all_goals
        go_wp2
        go_ret
        exact ⟨rfl, by repeat (first | exact ha7.out | refine Abv.drew ?_ | refine Abv.alloc ?_ _)⟩
  · have hk : ((p : Int) + 1) % (l.length : Int) = 0 := by
      rw [show (p : Int) + 1 = (l.length : Int) by omega]; exact Int.emod_self
    rw [hk]
    have hc0 : w6.cell? ⟨g6, 0, none⟩ = some (.int .u8 (l[0].toNat : Int)) := by rw [hown.cellAt 0 (by omega)]; exact u8s_get l 0 (by omega)
    have hf0 := hown.frozenAt 0
    have hbb := hide (Abv.trans ha5.out hb6)
    have hgb := hide (Nat.le_trans (Below.size ha5.out) hg6)
    clear hk hown hgrow hat_ ha5 hr5 hb6
    by_cases hp0 : p = 0
    · subst hp0
      generalize l[0] = x0 at *
      go_region
      go_wp2
      go_region
      go_wp2
      go_ret
      exact ⟨rfl, by repeat (first | exact hbb.out | refine Below.drew ?_ | refine Below.setCell ?_ hgb.out _)⟩
    · generalize l[0] = x0 at *
      generalize l[p] = x1 at *
      go_region
      go_wp2
      go_region
      go_wp2
      go_ret
      exact ⟨rfl, by repeat (first | exact hbb.out | refine Below.drew ?_ | refine Below.setCell ?_ hgb.out _)⟩
end Go.Proofs.Ytmeibpmcpgognaa
