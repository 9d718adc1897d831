/-
  The walk of RowOrder.
-/
import Derived.Test.YtkjngpiblbkccaaFit
namespace Go.Proofs.Ytkjngpiblbkccaa
open Go.RowKit

theorem bytesLess_irrefl : ∀ l : List UInt8, Op.bytesLess l l = false
  | [] => rfl
  | a :: l => by simp [Op.bytesLess, bytesLess_irrefl l]
theorem bytesLess_asymm : ∀ l m : List UInt8, Op.bytesLess l m = true → Op.bytesLess m l = false
  | [], [], h => by cases h
  | [], _ :: _, _ => rfl
  | _ :: _, [], h => by cases h
  | a :: l, b :: m, h => by
    simp only [Op.bytesLess, Bool.or_eq_true, Bool.and_eq_true, decide_eq_true_eq, beq_iff_eq] at h
    simp only [Op.bytesLess, Bool.or_eq_false_iff, Bool.and_eq_false_iff, decide_eq_false_iff_not]
    rcases h with h | ⟨rfl, h⟩
    · have h1 : ¬ b < a := fun e => by rw [UInt8.lt_iff_toNat_lt] at h e; omega
      have h2 : (b == a) = false := by rw [beq_eq_false_iff_ne]; rintro rfl; exact absurd h (by rw [UInt8.lt_iff_toNat_lt]; omega)
      exact ⟨h1, .inl h2⟩
    · exact ⟨by rw [UInt8.lt_iff_toNat_lt]; omega, .inr (bytesLess_asymm l m h)⟩
theorem less_told (b : Bool) (t t' : Int) (k v k' v' : ByteArray) (w : World) (h : lessB t k t' k' = b) :
    Calls Try.prog 15 #[.agg #[.int .i64 t, .string k, .string v], .agg #[.int .i64 t', .string k', .string v']] w fun e w' => e = .returned (.bool b) ∧ Below w.heap.size w w' := by
  subst h
  exact less_any t t' k v k' v' w
/-- Two boxes, one behind the other. -/
def boxes (w : World) (x y : Array Value) : World := (w.alloc (.cells x 23)).alloc (.cells y 23)
structure Two (w0 w : World) (x1 x2 x3 y1 y2 y3 : Value) : Prop where
  a : Blk w w0.heap.size 23 #[x1, x2, x3]
  b : Blk w (w0.heap.size + 1) 23 #[y1, y2, y3]
  le : Below w0.heap.size w0 w
theorem Two.of (w : World) (x1 x2 x3 y1 y2 y3 : Value) : Two w (boxes w #[x1, x2, x3] #[y1, y2, y3]) x1 x2 x3 y1 y2 y3 :=
  ⟨Blk.alloc (heap_new w _) _, heap_at _ _ (by simp), ((Below.refl _ _).alloc (Nat.le_refl _) _).alloc (by simp) _⟩
theorem Two.below {w0 w w' : World} {x1 x2 x3 y1 y2 y3 : Value} (h : Two w0 w x1 x2 x3 y1 y2 y3) (hb : Below w.heap.size w w') : Two w0 w' x1 x2 x3 y1 y2 y3 :=
  ⟨h.a.below hb, h.b.below hb, h.le.trans (hb.mono h.le.size)⟩
theorem Two.cells {w0 w : World} {x1 x2 x3 y1 y2 y3 : Value} (h : Two w0 w x1 x2 x3 y1 y2 y3) : w.cell? ⟨w0.heap.size, 0, none⟩ = some x1 ∧ w.cell? ⟨w0.heap.size, 1, none⟩ = some x2 ∧ w.cell? ⟨w0.heap.size, 2, none⟩ = some x3 ∧
    w.cell? ⟨w0.heap.size + 1, 0, none⟩ = some y1 ∧ w.cell? ⟨w0.heap.size + 1, 1, none⟩ = some y2 ∧ w.cell? ⟨w0.heap.size + 1, 2, none⟩ = some y3 := ⟨h.a.cell 0 _ rfl, h.a.cell 1 _ rfl, h.a.cell 2 _ rfl, h.b.cell 0 _ rfl, h.b.cell 1 _ rfl, h.b.cell 2 _ rfl⟩
theorem fit_two (w : World) (x1 x2 x3 y1 y2 y3 : Value) : Calls Try.prog 9 #[] ((w.alloc (.cells #[x1, x2, x3] 23)).alloc (.cells #[y1, y2, y3] 23)) fun e w' => e = .returned (.bool true) ∧ Two w w' x1 x2 x3 y1 y2 y3 :=
  (fit_any _).mono fun _ _ ⟨e, hb⟩ => ⟨e, (Two.of w x1 x2 x3 y1 y2 y3).below hb⟩

set_option maxHeartbeats 2000000 in
theorem order_walk (t : Int) (k v : ByteArray) (t' : Int) (k' v' : ByteArray) (w : World) (_ : (Lit.int .i64 t).wf = true) (_ : k.size ≤ maxLen) (_ : v.size ≤ maxLen) (_ : (Lit.int .i64 t').wf = true) (_ : k'.size ≤ maxLen) (_ : v'.size ≤ maxLen) :
    Calls Try.prog 5 #[.agg #[.int .i64 t, .string k, .string v], .agg #[.int .i64 t', .string k', .string v']] w fun e w' => e = .returned (.bool true) ∧ Below w.heap.size w w' := by
  by_cases hl : lightB k v = true ∧ lightB k' v' = true
  · obtain ⟨hl1, hl2⟩ := hl
    have hrr : lessB t k t k = false := by unfold lessB; rw [if_pos rfl]; exact bytesLess_irrefl _
    have cases : (t < t' ∧ lessB t k t' k' = true ∧ lessB t' k' t k = false) ∨ (t' < t ∧ lessB t k t' k' = false ∧ lessB t' k' t k = true) ∨ (t = t' ∧ ((Op.bytesLess k.toList k'.toList = true ∧ lessB t k t' k' = true ∧ lessB t' k' t k = false) ∨ (Op.bytesLess k.toList k'.toList = false ∧ lessB t k t' k' = false))) := by
      by_cases h1 : t < t'
      · exact .inl ⟨h1, by unfold lessB; rw [if_neg (by omega)]; simpa using h1, by unfold lessB; rw [if_neg (by omega)]; simp; omega⟩
      · by_cases h2 : t' < t
        · exact .inr (.inl ⟨h2, by unfold lessB; rw [if_neg (by omega)]; simp; omega, by unfold lessB; rw [if_neg (by omega)]; simpa using h2⟩)
        · obtain rfl : t = t' := by omega
          refine .inr (.inr ⟨rfl, ?_⟩)
          have e1 : lessB t k t k' = Op.bytesLess k.toList k'.toList := if_pos rfl
          have e2 : lessB t k' t k = Op.bytesLess k'.toList k.toList := if_pos rfl
          rw [e1, e2]
          cases h3 : Op.bytesLess k.toList k'.toList
          · exact .inr ⟨rfl, rfl⟩
          · exact .inl ⟨rfl, rfl, bytesLess_asymm _ _ h3⟩
    rcases cases with ⟨h, e1, e2⟩ | ⟨h, e1, e2⟩ | ⟨rfl, ⟨h, e1, e2⟩ | ⟨h, e1⟩⟩
    · have q1 : decide (t < t') = true := by simpa using h
      have E1 := hide e1
      have E2 := hide e2
      have E3 := hide hrr
      clear e1 e2 hrr
      go_enter Try.func5, Try.ntmps5
      go_wp2_with (first
        | (go_at_call 9; refine (fit_two w _ _ _ _ _ _).mono ?_; rintro e w1 ⟨rfl, T1⟩; obtain ⟨c1, c2, c3, c4, c5, c6⟩ := T1.cells)
        | (go_at_call 10; (with_reducible refine (light_told true t k v w1 hl1).mono ?_); rintro e w2 ⟨rfl, hb2⟩; have T2 := T1.below hb2; obtain ⟨p21, p22, p23, p24, p25, p26⟩ := T2.cells)
        | (go_at_call 10; (with_reducible refine (light_told true t' k' v' w2 hl2).mono ?_); rintro e w3 ⟨rfl, hb3⟩; have T3 := T2.below hb3; obtain ⟨p31, p32, p33, p34, p35, p36⟩ := T3.cells)
        | (go_at_call 15; (with_reducible refine (less_told true t t' k v k' v' w3 E1.out).mono ?_); rintro e w4 ⟨rfl, hb4⟩; have T4 := T3.below hb4; obtain ⟨p41, p42, p43, p44, p45, p46⟩ := T4.cells)
        | (go_at_call 15; (with_reducible refine (less_told true t t' k v k' v' w4 E1.out).mono ?_); rintro e w5 ⟨rfl, hb5⟩; have T5 := T4.below hb5; obtain ⟨p51, p52, p53, p54, p55, p56⟩ := T5.cells)
        | (go_at_call 15; (with_reducible refine (less_told false t' t k' v' k v w5 E2.out).mono ?_); rintro e w6 ⟨rfl, hb6⟩; have T6 := T5.below hb6; obtain ⟨p61, p62, p63, p64, p65, p66⟩ := T6.cells)
        | (go_at_call 15; (with_reducible refine (less_told false t t k v k v w6 E3.out).mono ?_); rintro e w7 ⟨rfl, hb7⟩; have T7 := T6.below hb7; obtain ⟨p71, p72, p73, p74, p75, p76⟩ := T7.cells))
      go_ret
      exact ⟨rfl, T7.le⟩
    · have q1 : decide (t < t') = false := by simp; omega
      have q2 : (t == t') = false := by rw [beq_eq_false_iff_ne]; omega
      have E1 := hide e1
      have E2 := hide e2
      have E3 := hide hrr
      clear e1 e2 hrr
      go_enter Try.func5, Try.ntmps5
      go_wp2_with (first
        | (go_at_call 9; refine (fit_two w _ _ _ _ _ _).mono ?_; rintro e w1 ⟨rfl, T1⟩; obtain ⟨c1, c2, c3, c4, c5, c6⟩ := T1.cells)
        | (go_at_call 10; (with_reducible refine (light_told true t k v w1 hl1).mono ?_); rintro e w2 ⟨rfl, hb2⟩; have T2 := T1.below hb2; obtain ⟨p21, p22, p23, p24, p25, p26⟩ := T2.cells)
        | (go_at_call 10; (with_reducible refine (light_told true t' k' v' w2 hl2).mono ?_); rintro e w3 ⟨rfl, hb3⟩; have T3 := T2.below hb3; obtain ⟨p31, p32, p33, p34, p35, p36⟩ := T3.cells)
        | (go_at_call 15; (with_reducible refine (less_told false t t' k v k' v' w3 E1.out).mono ?_); rintro e w4 ⟨rfl, hb4⟩; have T4 := T3.below hb4; obtain ⟨p41, p42, p43, p44, p45, p46⟩ := T4.cells)
        | (go_at_call 15; (with_reducible refine (less_told false t t' k v k' v' w4 E1.out).mono ?_); rintro e w5 ⟨rfl, hb5⟩; have T5 := T4.below hb5; obtain ⟨p51, p52, p53, p54, p55, p56⟩ := T5.cells)
        | (go_at_call 15; (with_reducible refine (less_told false t t k v k v w5 E3.out).mono ?_); rintro e w6 ⟨rfl, hb6⟩; have T6 := T5.below hb6; obtain ⟨p61, p62, p63, p64, p65, p66⟩ := T6.cells))
      go_ret
      exact ⟨rfl, T6.le⟩
    · have E1 := hide e1
      have E2 := hide e2
      have E3 := hide hrr
      clear e1 e2 hrr
      go_enter Try.func5, Try.ntmps5
      go_wp2_with (first
        | (go_at_call 9; refine (fit_two w _ _ _ _ _ _).mono ?_; rintro e w1 ⟨rfl, T1⟩; obtain ⟨c1, c2, c3, c4, c5, c6⟩ := T1.cells)
        | (go_at_call 10; (with_reducible refine (light_told true t k v w1 hl1).mono ?_); rintro e w2 ⟨rfl, hb2⟩; have T2 := T1.below hb2; obtain ⟨p21, p22, p23, p24, p25, p26⟩ := T2.cells)
        | (go_at_call 10; (with_reducible refine (light_told true t k' v' w2 hl2).mono ?_); rintro e w3 ⟨rfl, hb3⟩; have T3 := T2.below hb3; obtain ⟨p31, p32, p33, p34, p35, p36⟩ := T3.cells)
        | (go_at_call 15; (with_reducible refine (less_told true t t k v k' v' w3 E1.out).mono ?_); rintro e w4 ⟨rfl, hb4⟩; have T4 := T3.below hb4; obtain ⟨p41, p42, p43, p44, p45, p46⟩ := T4.cells)
        | (go_at_call 15; (with_reducible refine (less_told true t t k v k' v' w4 E1.out).mono ?_); rintro e w5 ⟨rfl, hb5⟩; have T5 := T4.below hb5; obtain ⟨p51, p52, p53, p54, p55, p56⟩ := T5.cells)
        | (go_at_call 15; (with_reducible refine (less_told false t t k' v' k v w5 E2.out).mono ?_); rintro e w6 ⟨rfl, hb6⟩; have T6 := T5.below hb6; obtain ⟨p61, p62, p63, p64, p65, p66⟩ := T6.cells)
        | (go_at_call 15; (with_reducible refine (less_told false t t k v k v w6 E3.out).mono ?_); rintro e w7 ⟨rfl, hb7⟩; have T7 := T6.below hb7; obtain ⟨p71, p72, p73, p74, p75, p76⟩ := T7.cells))
      go_ret
      exact ⟨rfl, T7.le⟩
    · have E1 := hide e1
      have E3 := hide hrr
      clear e1 hrr
      go_enter Try.func5, Try.ntmps5
      go_wp2_with (first
        | (go_at_call 9; refine (fit_two w _ _ _ _ _ _).mono ?_; rintro e w1 ⟨rfl, T1⟩; obtain ⟨c1, c2, c3, c4, c5, c6⟩ := T1.cells)
        | (go_at_call 10; (with_reducible refine (light_told true t k v w1 hl1).mono ?_); rintro e w2 ⟨rfl, hb2⟩; have T2 := T1.below hb2; obtain ⟨p21, p22, p23, p24, p25, p26⟩ := T2.cells)
        | (go_at_call 10; (with_reducible refine (light_told true t k' v' w2 hl2).mono ?_); rintro e w3 ⟨rfl, hb3⟩; have T3 := T2.below hb3; obtain ⟨p31, p32, p33, p34, p35, p36⟩ := T3.cells)
        | (go_at_call 15; (with_reducible refine (less_told false t t k v k' v' w3 E1.out).mono ?_); rintro e w4 ⟨rfl, hb4⟩; have T4 := T3.below hb4; obtain ⟨p41, p42, p43, p44, p45, p46⟩ := T4.cells)
        | (go_at_call 15; (with_reducible refine (less_told false t t k v k' v' w4 E1.out).mono ?_); rintro e w5 ⟨rfl, hb5⟩; have T5 := T4.below hb5; obtain ⟨p51, p52, p53, p54, p55, p56⟩ := T5.cells)
        | (go_at_call 15; (with_reducible refine (less_told false t t k v k v w5 E3.out).mono ?_); rintro e w6 ⟨rfl, hb6⟩; have T6 := T5.below hb6; obtain ⟨p61, p62, p63, p64, p65, p66⟩ := T6.cells))
      go_ret
      exact ⟨rfl, T6.le⟩
  · by_cases hl1 : lightB k v = true
    · have hl2 : lightB k' v' = false := by
        cases h : lightB k' v'
        · rfl
        · exact absurd ⟨hl1, h⟩ hl
      clear hl
      go_enter Try.func5, Try.ntmps5
      go_wp2_with (first
        | (go_at_call 9; refine (fit_two w _ _ _ _ _ _).mono ?_; rintro e w1 ⟨rfl, T1⟩; obtain ⟨c1, c2, c3, c4, c5, c6⟩ := T1.cells)
        | (go_at_call 10; (with_reducible refine (light_told true t k v w1 hl1).mono ?_); rintro e w2 ⟨rfl, hb2⟩; have T2 := T1.below hb2; obtain ⟨p21, p22, p23, p24, p25, p26⟩ := T2.cells)
        | (go_at_call 10; (with_reducible refine (light_told false t' k' v' w2 hl2).mono ?_); rintro e w3 ⟨rfl, hb3⟩; have T3 := T2.below hb3; obtain ⟨p31, p32, p33, p34, p35, p36⟩ := T3.cells))
      go_ret
      exact ⟨rfl, T3.le⟩
    · have hl3 : lightB k v = false := by simpa using hl1
      clear hl hl1
      go_enter Try.func5, Try.ntmps5
      go_wp2_with (first
        | (go_at_call 9; refine (fit_two w _ _ _ _ _ _).mono ?_; rintro e w1 ⟨rfl, T1⟩; obtain ⟨c1, c2, c3, c4, c5, c6⟩ := T1.cells)
        | (go_at_call 10; (with_reducible refine (light_told false t k v w1 hl3).mono ?_); rintro e w2 ⟨rfl, hb2⟩; have T2 := T1.below hb2; obtain ⟨p21, p22, p23, p24, p25, p26⟩ := T2.cells))
      go_ret
      exact ⟨rfl, T2.le⟩
end Go.Proofs.Ytkjngpiblbkccaa
