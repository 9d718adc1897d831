/-
  TransApart's walk.
-/
import Derived.Test.YtkegfedbffhnfaaPops11
namespace Go.Proofs.Ytkegfedbffhnfaa
open Go.RowKit
set_option maxRecDepth 20000
set_option linter.unusedSimpArgs false
set_option linter.unusedVariables false

/-- Two are open. -/
def twoT (x : Nat) (t : Tx) (y : Nat) (u : Tx) : Tb := updT (oneT x t) 2 (some (y, u))
theorem twoT_1 (x : Nat) (t : Tx) (y : Nat) (u : Tx) : twoT x t y u 1 = some (x, t) := rfl
theorem twoT_2 (x : Nat) (t : Tx) (y : Nat) (u : Tx) : twoT x t y u 2 = some (y, u) := rfl
theorem twoT_upd1 (x : Nat) (t t' : Tx) (y : Nat) (u : Tx) : updT (twoT x t y u) 1 (some (x, t')) = twoT x t' y u := by
  funext j
  unfold twoT updT oneT
  by_cases e : j = 1
  · subst e; rfl
  · by_cases e2 : j = 2 <;> simp [e, e2]
theorem twoT_upd2 (x : Nat) (t : Tx) (y : Nat) (u u' : Tx) : updT (twoT x t y u) 2 (some (y, u')) = twoT x t y u' := by
  funext j
  unfold twoT updT oneT
  by_cases e2 : j = 2 <;> simp [e2]
/-- The second one alone. -/
def secT (x : Nat) (t : Tx) (y : Nat) (u : Tx) : Tb := updT (twoT x t y u) 1 none
theorem sec_few {x y : Nat} {t u : Tx} {n : Nat} (h : u.l.length ≤ n) : ∀ i z r, secT x t y u i = some (z, r) → r.l.length ≤ n := by
  intro i z r e
  unfold secT twoT updT oneT at e
  by_cases e1 : i = 1
  · simp [e1] at e
  · by_cases e2 : i = 2
    · simp [e2] at e
      rw [← e.2]
      exact h
    · simp [e1, e2] at e
theorem sec_sum (x y : Nat) (t u : Tx) : sumT (secT x t y u) 4 = u.l.length := by
  simp [sumT, secT, twoT, updT, oneT, lenO]
section
variable {A0 W : World} {F0 : Nat → Prop} {L : List Res} {i g x y : Nat} {t u : Tx}
theorem ow_beg2 (h : Ow A0 F0 W L) (hi : L[i]? = some (Res.tt g (oneT x t))) : Calls Try.prog 10 #[.pointer (some ⟨g, 0, none⟩)] W fun e W' => e = .returned (.int .i64 2) ∧ ∃ y, Ow A0 F0 W' (L.set i (Res.tt g (twoT x t y tx0))) := by
  refine (ow_begin_to h hi (k := 2) rfl (by decide)).mono ?_
  rintro e W' ⟨rfl, y, h1⟩
  exact ⟨rfl, y, h1⟩
theorem ow_get2 (h : Ow A0 F0 W L) (hi : L[i]? = some (Res.tt g (twoT x t y u))) : Calls Try.prog 12 #[.pointer (some ⟨g, 0, none⟩), .int .i64 2] W fun e W' => e = .returned (.pointer (some ⟨y, 0, none⟩)) ∧ W = W' := ow_getn h hi (j := 2) rfl
theorem ow_pushx {t' : Tx} (h : Ow A0 F0 W L) (hi : L[i]? = some (Res.tt g (twoT x t y u))) (hl : t.l.length ≤ 100000) (ho : t.ops ≤ 100000) (c : Ch) (ht : t.push c = t') : Calls Try.prog 13 #[.pointer (some ⟨x, 0, none⟩), .agg #[.int .i64 c.page, .int .i64 c.slot, .string c.before]] W fun e W' => e = .returned (.tuple #[]) ∧ Ow A0 F0 W' (L.set i (Res.tt g (twoT x t' y u))) := by
  have := ow_push h hi (twoT_1 x t y u) hl ho c
  rw [twoT_upd1, ht] at this
  exact this
theorem ow_pushy {u' : Tx} (h : Ow A0 F0 W L) (hi : L[i]? = some (Res.tt g (twoT x t y u))) (hl : u.l.length ≤ 100000) (ho : u.ops ≤ 100000) (c : Ch) (hu : u.push c = u') : Calls Try.prog 13 #[.pointer (some ⟨y, 0, none⟩), .agg #[.int .i64 c.page, .int .i64 c.slot, .string c.before]] W fun e W' => e = .returned (.tuple #[]) ∧ Ow A0 F0 W' (L.set i (Res.tt g (twoT x t y u'))) := by
  have := ow_push h hi (twoT_2 x t y u) hl ho c
  rw [twoT_upd2, hu] at this
  exact this
theorem ow_popy {u' : Tx} {m : Nat} {c : Ch} (h : Ow A0 F0 W L) (hi : L[i]? = some (Res.tt g (twoT x t y u))) (hl : u.l.length ≤ 100000) (hm : u.l.length = m + 1) (hc : u.l[m]? = some c) (hu : (⟨u.l.take m, u.ops, u.sv⟩ : Tx) = u') : Calls Try.prog 14 #[.pointer (some ⟨y, 0, none⟩)] W fun e W' => e = .returned (.tuple #[.agg #[.int .i64 c.page, .int .i64 c.slot, .string c.before], .bool true]) ∧ Ow A0 F0 W' (L.set i (Res.tt g (twoT x t y u'))) := by
  have := ow_pop h hi (twoT_2 x t y u) hl hm hc
  rw [twoT_upd2, hu] at this
  exact this
theorem ow_geti {T : Tb} (h : Ow A0 F0 W L) (hi : L[i]? = some (Res.tt g T)) (z : Int) {v : Value} (hv : pv (getT T z) = v) : Calls Try.prog 12 #[.pointer (some ⟨g, 0, none⟩), .int .i64 z] W fun e W' => e = .returned v ∧ W = W' := by
  have := ow_get h hi z
  rw [hv] at this
  exact this
theorem ow_end1 {T : Tb} (h : Ow A0 F0 W L) (hi : L[i]? = some (Res.tt g T)) : Calls Try.prog 11 #[.pointer (some ⟨g, 0, none⟩), .int .i64 1] W fun e W' => e = .returned (.tuple #[]) ∧ Ow A0 F0 W' (L.set i (Res.tt g (updT T 1 none))) := ow_endT h hi (j := 1) (by decide)
end
theorem take_same {α : Type} {l : List α} {j : Nat} (h : l.length ≤ j) : l.take (j + 1) = l.take j := by
  rw [List.take_of_length_le (by omega), List.take_of_length_le h]
theorem push_take {l : List Ch} {j p : Nat} {c : Ch} (h : l[j]? = some c) : (⟨l.take j, p, []⟩ : Tx).push c = ⟨l.take (j + 1), p + 1, []⟩ := by
  unfold Tx.push
  rw [List.take_add_one, h]
  rfl
theorem len_take_le (l : List Ch) {j n : Nat} (h : l.length ≤ n) : (l.take j).length ≤ n := by
  rw [List.length_take]
  omega
set_option maxHeartbeats 16000000 in
theorem apart_walk (v : Value) (a : List Ch) (u : Value) (b : List Ch) (w : World) (hv : ChRow w w.heap.size v a) (hu : ChRow w w.heap.size u b) : Calls Try.prog 7 #[v, u] w fun e w' => e = .returned (.bool true) ∧ Below w.heap.size w w' := by
  obtain ⟨⟨A0, cap, rfl, hlc, _⟩, _⟩ := id hv
  obtain ⟨⟨A1, cap1, rfl, hlc1, _⟩, _⟩ := id hu
  have HV := hide hv
  have HU := hide hu
  clear hv hu hlc hlc1
  by_cases hla : a.length ≤ 50
  · have hl1 : ¬ (50 : Int) < (a.length : Int) := by omega
    by_cases hlb : b.length ≤ 50
    · have hl2 : ¬ (50 : Int) < (b.length : Int) := by omega
      obtain ⟨N, hN, hmax, hNa, hNb⟩ : ∃ N : Nat, N ≤ 50 ∧ max (a.length : Int) (b.length : Int) = (N : Int) ∧ a.length ≤ N ∧ b.length ≤ N := ⟨max a.length b.length, by omega, by omega, by omega, by omega⟩
      have HMAX : Hid (N ≤ a.length ∨ N ≤ b.length) := hide (by omega)
      have HN := hide hN
      have HNA := hide hNa
      have HNB := hide hNb
      have hni : (N : Int) ≤ 50 := by omega
      clear hN hNa hNb
      go_enter Try.func7, Try.ntmps7
      go_wp2_with (first
        | (go_at_call 9; (with_reducible refine (fit_any _).mono ?_); rintro e w0 ⟨rfl, hb⟩; have hs := ((Ow.start w).below hb).newtab layT 27; have HK0 := hide (ow_beg1 hs (i := 0) rfl); clear hb hs)
        | (go_at_call 10; (with_reducible refine HK0.out.mono ?_); rintro e w1 ⟨rfl, x, hs⟩; clear HK0; have HK1 := hide (ow_get1 hs (i := 0) rfl); have S1 := hide hs; clear hs)
        | (go_at_call 12; (with_reducible refine HK1.out.mono ?_); rintro e w2 ⟨rfl, rfl⟩; clear HK1; have HK2 := hide (ow_beg2 S1.out (i := 0) rfl))
        | (go_at_call 10; (with_reducible refine HK2.out.mono ?_); rintro e w3 ⟨rfl, y, hs⟩; clear HK2; have HK3 := hide (ow_get2 hs (i := 0) rfl); have S2 := hide hs; clear hs S1)
        | (go_at_call 12; (with_reducible refine HK3.out.mono ?_); rintro e w4 ⟨rfl, rfl⟩; clear HK3))
      have S3 : Hid (Ow w (fun _ => False) w3 [Res.tt w0.heap.size (twoT x ⟨a.take 0, 0, []⟩ y ⟨b.take 0, 0, []⟩)]) := S2
      clear S2
      generalize w0.heap.size = g at *
      go_loopw [32] (fun i wr => ∃ (j p q : Nat), j ≤ N ∧ i = .int .i64 j ∧ Hid (Ow w (fun _ => False) wr [Res.tt g (twoT x ⟨a.take j, p, []⟩ y ⟨b.take j, q, []⟩)]) ∧ Hid (p ≤ j ∧ q ≤ 2 * j)) (fun i _ => N - (intOf i).toNat)
      case atStart => exact ⟨0, 0, 0, by omega, rfl, S3, hide ⟨Nat.le_refl _, Nat.le_refl _⟩⟩
      case round =>
        clear S3
        obtain ⟨j, p, q, hj, rfl, hs, hpq⟩ := hrel
        by_cases hlt : j < N
        · have q0 : (0 : Int) ≤ (j : Int) := by omega
          have q1 : (j : Int) < (N : Int) := by omega
          have HLT := hide hlt
          have hj50 : j ≤ 50 := by have := HN.out; omega
          clear hlt
          by_cases hja : j < a.length
          · by_cases hjb : j < b.length
            · obtain ⟨⟨pa, sa, ba⟩, hca⟩ : ∃ c, a[j]? = some c := ⟨_, List.getElem?_eq_getElem hja⟩
              obtain ⟨_, b1, o1, rfl, ⟨a0, a1, a2⟩, _⟩ := change_cells HV.out hs.out.bel hca
              dsimp only at a0 a1 a2
              have ia : (j : Int) < (a.length : Int) := by omega
              have HKA := hide (ow_pushx hs.out (i := 0) rfl (len_take_le a (by omega)) (by show p ≤ _; have := hpq.out; omega) ⟨pa, sa, ba⟩ (push_take hca))
              obtain ⟨⟨pb, sb, bb⟩, hcb⟩ : ∃ c, b[j]? = some c := ⟨_, List.getElem?_eq_getElem hjb⟩
              have HCB := hide hcb
              obtain ⟨_, b2, o2, rfl, ⟨d0, d1, d2⟩, _⟩ := change_cells HU.out hs.out.bel hcb
              dsimp only at d0 d1 d2
              have ib : (j : Int) < (b.length : Int) := by omega
              have HQ2 : Hid (q ≤ 1000) := hide (by have := hpq.out; omega)
              have HPU := hide (push_take (p := q) hcb)
              have HPU2 := hide (push_take (p := q + 1) hcb)
              have HLB : Hid ((b.take (j + 1)).length = j + 1) := hide (by rw [List.length_take]; omega)
              have HCT : Hid ((b.take (j + 1))[j]? = some ⟨pb, sb, bb⟩) := hide (by rw [List.getElem?_take, if_pos (by omega)]; exact hcb)
              have HTT : Hid ((⟨(b.take (j + 1)).take j, q + 1, []⟩ : Tx) = ⟨b.take j, q + 1, []⟩) := hide (by rw [List.take_take]; congr 2; omega)
              have HB1 : Hid (b.length ≤ 100000) := hide (by omega)
              clear hja hjb hca hcb
              go_wp2_with (first
                | (go_at_call 13; (with_reducible refine HKA.out.mono ?_); rintro e w3 ⟨rfl, hs⟩; clear HKA; obtain ⟨_, b9, o9, e9, ⟨d0, d1, d2⟩, _⟩ := change_cells HU.out hs.bel HCB.out; injection e9 with e9; injection e9 with e9a e9b; subst e9a e9b; dsimp only at d0 d1 d2; have HKB := hide (ow_pushy hs (i := 0) rfl (len_take_le b HB1.out) (by show q ≤ _; have := HQ2.out; omega) ⟨pb, sb, bb⟩ HPU.out); clear hs)
                | (go_at_call 13; (with_reducible refine HKB.out.mono ?_); rintro e w4 ⟨rfl, hs⟩; clear HKB; have HKC := hide (ow_popy hs (i := 0) rfl (len_take_le b HB1.out) HLB.out HCT.out HTT.out); clear hs)
                | (go_at_call 14; (with_reducible refine HKC.out.mono ?_); rintro e w5 ⟨rfl, hs⟩; clear HKC; obtain ⟨_, b9, o9, e9, ⟨d0, d1, d2⟩, _⟩ := change_cells HU.out hs.bel HCB.out; injection e9 with e9; injection e9 with e9a e9b; subst e9a e9b; dsimp only at d0 d1 d2; have HKD := hide (ow_pushy hs (i := 0) rfl (len_take_le b HB1.out) (by show q + 1 ≤ _; have := HQ2.out; omega) ⟨pb, sb, bb⟩ HPU2.out); clear hs)
                | (go_at_call 13; (with_reducible refine HKD.out.mono ?_); rintro e w6 ⟨rfl, hs⟩; clear HKD; have HE := hide hs; clear hs))
              go_roundw
              case rel => exact ⟨j + 1, p + 1, q + 1 + 1, by have := HLT.out; omega, by go_num, HE, hide (by have := hpq.out; omega)⟩
              case measure => simp [intOf]; have := HLT.out; omega
            · obtain ⟨⟨pa, sa, ba⟩, hca⟩ : ∃ c, a[j]? = some c := ⟨_, List.getElem?_eq_getElem hja⟩
              obtain ⟨_, b1, o1, rfl, ⟨a0, a1, a2⟩, _⟩ := change_cells HV.out hs.out.bel hca
              dsimp only at a0 a1 a2
              have ia : (j : Int) < (a.length : Int) := by omega
              have HKA := hide (ow_pushx hs.out (i := 0) rfl (len_take_le a (by omega)) (by show p ≤ _; have := hpq.out; omega) ⟨pa, sa, ba⟩ (push_take hca))
              have ib : ¬ (j : Int) < (b.length : Int) := by omega
              have HTB := hide (take_same (l := b) (j := j) (by omega))
              clear hja hjb hca
              go_wp2_with (first
                | (go_at_call 13; (with_reducible refine HKA.out.mono ?_); rintro e w3 ⟨rfl, hs⟩; clear HKA; have HE := hide hs; clear hs))
              go_roundw
              case rel => exact ⟨j + 1, p + 1, q, by have := HLT.out; omega, by go_num, hide (by rw [HTB.out]; exact HE.out), hide (by have := hpq.out; omega)⟩
              case measure => simp [intOf]; have := HLT.out; omega
          · by_cases hjb : j < b.length
            · have ia : ¬ (j : Int) < (a.length : Int) := by omega
              have HTA := hide (take_same (l := a) (j := j) (by omega))
              obtain ⟨⟨pb, sb, bb⟩, hcb⟩ : ∃ c, b[j]? = some c := ⟨_, List.getElem?_eq_getElem hjb⟩
              have HCB := hide hcb
              obtain ⟨_, b2, o2, rfl, ⟨d0, d1, d2⟩, _⟩ := change_cells HU.out hs.out.bel hcb
              dsimp only at d0 d1 d2
              have ib : (j : Int) < (b.length : Int) := by omega
              have HQ2 : Hid (q ≤ 1000) := hide (by have := hpq.out; omega)
              have HPU := hide (push_take (p := q) hcb)
              have HPU2 := hide (push_take (p := q + 1) hcb)
              have HLB : Hid ((b.take (j + 1)).length = j + 1) := hide (by rw [List.length_take]; omega)
              have HCT : Hid ((b.take (j + 1))[j]? = some ⟨pb, sb, bb⟩) := hide (by rw [List.getElem?_take, if_pos (by omega)]; exact hcb)
              have HTT : Hid ((⟨(b.take (j + 1)).take j, q + 1, []⟩ : Tx) = ⟨b.take j, q + 1, []⟩) := hide (by rw [List.take_take]; congr 2; omega)
              have HB1 : Hid (b.length ≤ 100000) := hide (by omega)
              have HKB := hide (ow_pushy hs.out (i := 0) rfl (len_take_le b HB1.out) (by show q ≤ _; have := HQ2.out; omega) ⟨pb, sb, bb⟩ HPU.out)
              clear hja hjb hcb
              go_wp2_with (first
                | (go_at_call 13; (with_reducible refine HKB.out.mono ?_); rintro e w4 ⟨rfl, hs⟩; clear HKB; have HKC := hide (ow_popy hs (i := 0) rfl (len_take_le b HB1.out) HLB.out HCT.out HTT.out); clear hs)
                | (go_at_call 14; (with_reducible refine HKC.out.mono ?_); rintro e w5 ⟨rfl, hs⟩; clear HKC; obtain ⟨_, b9, o9, e9, ⟨d0, d1, d2⟩, _⟩ := change_cells HU.out hs.bel HCB.out; injection e9 with e9; injection e9 with e9a e9b; subst e9a e9b; dsimp only at d0 d1 d2; have HKD := hide (ow_pushy hs (i := 0) rfl (len_take_le b HB1.out) (by show q + 1 ≤ _; have := HQ2.out; omega) ⟨pb, sb, bb⟩ HPU2.out); clear hs)
                | (go_at_call 13; (with_reducible refine HKD.out.mono ?_); rintro e w6 ⟨rfl, hs⟩; clear HKD; have HE := hide hs; clear hs))
              go_roundw
              case rel => exact ⟨j + 1, p, q + 1 + 1, by have := HLT.out; omega, by go_num, hide (by rw [HTA.out]; exact HE.out), hide (by have := hpq.out; omega)⟩
              case measure => simp [intOf]; have := HLT.out; omega
            · exact absurd HLT.out (by omega)
        · obtain rfl : N = j := by omega
          clear hlt hj
          have hq9 : ¬ (N : Int) < (N : Int) := by omega
          have hs9 := hs.out
          rw [List.take_of_length_le HNA.out, List.take_of_length_le HNB.out] at hs9
          have S4 := hide hs9
          have HA5 : Hid (a.length ≤ 50) := hide hla
          have HB5 : Hid (b.length ≤ 50) := hide hlb
          have HK5 := hide (ow_list hs9 (i := 0) rfl (twoT_1 _ _ _ _) (by show a.length ≤ _; omega))
          clear hs hs9 hpq hla hlb HMAX HN HNA HNB
          go_wp2_with (go_at_call 24; (with_reducible refine HK5.out.mono ?_); rintro e w5 ⟨v5, rfl, hs⟩; clear HK5; obtain ⟨Al, cl, el⟩ := (hs.krow (i := 1) rfl).form; have el : v5 = .slice Al a.length cl := el; subst el; have S5 := hide hs; clear hs)
          go_loopw [68] (fun i wr => ∃ (j : Nat) (es : List Ch), j ≤ a.length ∧ i = .int .i64 j ∧ Hid (Ow w (fun _ => False) wr [Res.tt g (twoT x ⟨a, p, []⟩ y ⟨b, q, []⟩), Res.row chK (.slice Al a.length cl) es]) ∧ Hid (es.length = a.length ∧ ∀ k, j ≤ k → es[k]? = a[k]?)) (fun i _ => a.length - (intOf i).toNat)
          case atStart => exact ⟨0, a, by omega, rfl, S5, hide ⟨rfl, fun _ _ => rfl⟩⟩
          case round =>
            clear S5 S4
            rename World => w8
            obtain ⟨j, es, hj, rfl, hs, hes⟩ := hrel
            by_cases hlt : j < a.length
            · obtain ⟨⟨pa, sa, ba⟩, hca⟩ : ∃ c, a[j]? = some c := ⟨_, List.getElem?_eq_getElem hlt⟩
              have hce : es[j]? = some ⟨pa, sa, ba⟩ := (hes.out.2 j (Nat.le_refl _)).trans hca
              obtain ⟨_, b1, o1, rfl, ⟨a0, a1, a2⟩, _⟩ := change_cells HV.out hs.out.bel hca
              dsimp only at a0 a1 a2
              have hrw := hs.out.krow (i := 1) rfl
              obtain ⟨gl, cg, eg, _⟩ := hrw.block (by have := hes.out.1; omega)
              injection eg with eg1 eg2 eg3
              subst eg1 eg3
              have e0 : w8.cell? ⟨gl, j * 3, none⟩ = some (.int .i64 pa) := hrw.cells hce 0 _ rfl
              have e1 : w8.cell? ⟨gl, j * 3 + 1, none⟩ = some (.int .i64 sa) := hrw.cells hce 1 _ rfl
              have e2 : w8.cell? ⟨gl, j * 3 + 2, none⟩ = some (.string ba) := hrw.cells hce 2 _ rfl
              have ef := hrw.frozen (j * 3 + 1)
              obtain ⟨s9, hs9⟩ : ∃ s9, wrap64 (sa + 9) = s9 := ⟨_, rfl⟩
              have HE : Hid (∀ n, Ow w (fun _ => False) ((w8.drewN n).setCell ⟨gl, j * 3 + 1, none⟩ (.int .i64 s9)) [Res.tt g (twoT x ⟨a, p, []⟩ y ⟨b, q, []⟩), Res.row chK (.slice (some ⟨gl, 0, none⟩) a.length cl) (es.set j ⟨pa, s9, ba⟩)]) := hide (fun n => by
                have hsd := hs.out.below (Below.drewsN w8 n)
                have HP := (hsd.krow (i := 1) rfl).put (i := 1) (y := ⟨pa, s9, ba⟩) (u := .int .i64 s9) hce (by decide) rfl
                exact hsd.rowset (i := 1) rfl HP ((Kept.setCell (w8.drewN n) ⟨gl, j * 3 + 1, none⟩ _).mono (fun k e => .inl (by rw [e]; rfl))) (fun k e => e))
              have HLT := hide hlt
              have q0 : (0 : Int) ≤ (j : Int) := by omega
              have q1 : (j : Int) < (a.length : Int) := by omega
              have qa : (a.length : Int) ≤ 50 := by have := HA5.out; omega
              clear hlt hce hca hrw eg2
              go_wp2
              go_quiet (fail)
              go_wp2
              go_roundw
              case rel => exact ⟨j + 1, _, by have := HLT.out; omega, by go_num, hide (HE.out _), hide ⟨by rw [List.length_set]; exact hes.out.1, fun k hk => by rw [List.getElem?_set_ne (by omega)]; exact hes.out.2 k (by omega)⟩⟩
              case measure => simp [intOf]; have := HLT.out; omega
            · obtain rfl : j = a.length := by omega
              clear hlt hj
              have HK6 := hide (ow_list hs.out (i := 0) rfl (twoT_1 _ _ _ _) (by show a.length ≤ _; have := HA5.out; omega))
              have HEL := hide hes.out.1
              have qa : (a.length : Int) ≤ 50 := by have := HA5.out; omega
              clear hs hes
              go_wp2_with (go_at_call 24; (with_reducible refine HK6.out.mono ?_); rintro e w9 ⟨v6, rfl, hs⟩; clear HK6; obtain ⟨Am, cm, em⟩ := (hs.krow (i := 2) rfl).form; have em : v6 = .slice Am a.length cm := em; subst em; have S6 := hide hs; clear hs)
              go_loopw [92] (fun i wr => ∃ j : Nat, j ≤ a.length ∧ i = .int .i64 j ∧ Hid (Ow w (fun _ => False) wr [Res.tt g (twoT x ⟨a, p, []⟩ y ⟨b, q, []⟩), Res.row chK (.slice Al a.length cl) es, Res.row chK (.slice Am a.length cm) a])) (fun i _ => a.length - (intOf i).toNat)
              case atStart => exact ⟨0, by omega, rfl, S6⟩
              case round =>
                clear S6
                rename World => w10
                obtain ⟨j, hj, rfl, hs⟩ := hrel
                by_cases hlt : j < a.length
                · obtain ⟨⟨pa, sa, ba⟩, hca⟩ : ∃ c, a[j]? = some c := ⟨_, List.getElem?_eq_getElem hlt⟩
                  have hrw := hs.out.krow (i := 2) rfl
                  obtain ⟨gl, cg, eg, _⟩ := hrw.block (by omega)
                  injection eg with eg1 eg2 eg3
                  subst eg1 eg3
                  have e0 : w10.cell? ⟨gl, j * 3, none⟩ = some (.int .i64 pa) := hrw.cells hca 0 _ rfl
                  have e1 : w10.cell? ⟨gl, j * 3 + 1, none⟩ = some (.int .i64 sa) := hrw.cells hca 1 _ rfl
                  have e2 : w10.cell? ⟨gl, j * 3 + 2, none⟩ = some (.string ba) := hrw.cells hca 2 _ rfl
                  have SB := hide (hs.out.box 31 #[.int .i64 pa, .int .i64 sa, .string ba])
                  obtain ⟨_, b1, o1, rfl, ⟨a0, a1, a2⟩, _⟩ := change_cells HV.out SB.out.bel hca
                  dsimp only at a0 a1 a2
                  obtain ⟨c0, c1, c2, _⟩ := (SB.out.blk (i := 3) rfl).three
                  have HLT := hide hlt
                  have q0 : (0 : Int) ≤ (j : Int) := by omega
                  have q1 : (j : Int) < (a.length : Int) := by omega
                  clear hlt hca hrw eg2
                  go_wp2
                  go_quiet (fail)
                  go_wp2
                  go_roundw
                  case rel => exact ⟨j + 1, by have := HLT.out; omega, by go_num, hide ((SB.out.below (Below.drewsN _ _)).take 3)⟩
                  case measure => simp [intOf]; have := HLT.out; omega
                · obtain rfl : j = a.length := by omega
                  clear hlt hj
                  have HK7 := hide (ow_end1 hs.out (i := 0) rfl)
                  have qb : (b.length : Int) ≤ 50 := by have := HB5.out; omega
                  clear hs
                  go_wp2_with (first
                    | (go_at_call 11; (with_reducible refine HK7.out.mono ?_); rintro e w11 ⟨rfl, hs⟩; clear HK7; have S7 := hide hs; have HG2 := hide (ow_geti hs (i := 0) rfl 2 (v := .pointer (some ⟨y, 0, none⟩)) rfl); have HL2 := hide (ow_len hs (i := 0) rfl (n := 2) (x := y) (t := ⟨b, q, []⟩) rfl rfl); have HC := hide (ow_changes hs (i := 0) rfl (sec_few (x := x) (t := ⟨a, p, []⟩) (y := y) (u := ⟨b, q, []⟩) (by show b.length ≤ 100000; have := HB5.out; omega)) (sec_sum _ _ _ _)); clear hs)
                    | (go_at_call 12; (with_reducible refine HG2.out.mono ?_); rintro e w12 ⟨rfl, rfl⟩; clear HG2)
                    | (go_at_call 21; (with_reducible refine HL2.out.mono ?_); rintro e w13 ⟨rfl, rfl⟩; clear HL2)
                    | (go_at_call 23; (with_reducible refine HC.out.mono ?_); rintro e w14 ⟨rfl, hs⟩; clear HC; have HG1 := hide (ow_geti hs (i := 0) rfl 1 (v := .pointer none) rfl); have HG0 := hide (ow_geti hs (i := 0) rfl 0 (v := .pointer none) rfl); have HG9 := hide (ow_geti hs (i := 0) rfl 9 (v := .pointer none) rfl); have HE := hide hs; clear hs)
                    | (go_at_call 12; (with_reducible refine HG1.out.mono ?_); rintro e w15 ⟨rfl, rfl⟩; clear HG1)
                    | (go_at_call 12; (with_reducible refine HG0.out.mono ?_); rintro e w16 ⟨rfl, rfl⟩; clear HG0)
                    | (go_at_call 12; (with_reducible refine HG9.out.mono ?_); rintro e w17 ⟨rfl, rfl⟩; clear HG9))
                  go_ret
                  exact ⟨rfl, HE.out.bel⟩
    · have hl2 : (50 : Int) < (b.length : Int) := by omega
      clear hlb hla
      go_enter Try.func7, Try.ntmps7
      go_wp2_with (go_at_call 9; (with_reducible refine (fit_any _).mono ?_); rintro e w0 ⟨rfl, hb⟩; have S0 := hide ((Ow.start w).below hb); clear hb)
      go_ret
      exact ⟨rfl, S0.out.bel⟩
  · have hl1 : (50 : Int) < (a.length : Int) := by omega
    clear hla
    go_enter Try.func7, Try.ntmps7
    go_wp2_with (go_at_call 9; (with_reducible refine (fit_any _).mono ?_); rintro e w0 ⟨rfl, hb⟩; have S0 := hide ((Ow.start w).below hb); clear hb)
    go_ret
    exact ⟨rfl, S0.out.bel⟩
end Go.Proofs.Ytkegfedbffhnfaa
