/-
  The walk of DiskAll.
-/
import Derived.Test.YtjlfepmdnphenaaAppC
namespace Go.Proofs.Ytjlfepmdnphenaa
open Go.RowKit

theorem Out.size {X : Nat → Prop} {w w' : World} (h : Out X w w') : w.heap.size ≤ w'.heap.size := Kept.size h
/-- One region that nothing arms. -/
def Uno (base : List Sec) (ws : List (Nat × Sec)) (n : Nat) : Ds := ⟨8, [⟨base, ws, false, 0⟩], n⟩
def w1 (x : CallD) : List (Nat × Sec) := if x.s < 0 ∨ (8 : Int) ≤ x.s ∨ 64 < x.data.length then [] else [(x.s.toNat, pad x.data)]
def wl (cs : List CallD) : List (Nat × Sec) := cs.flatMap w1
theorem wl_append (a b : List CallD) : wl (a ++ b) = wl a ++ wl b := List.flatMap_append
theorem wl_next {cs : List CallD} {k : Nat} (h : k < cs.length) : wl (cs.take (k + 1)) = wl (cs.take k) ++ w1 cs[k] := by
  rw [List.take_succ_eq_append_getElem h, wl_append]
  simp [wl]
theorem w1_le (x : CallD) : (w1 x).length ≤ 1 := by unfold w1; split <;> simp
theorem wl_le (cs : List CallD) : (wl cs).length ≤ cs.length := by
  induction cs with
  | nil => exact Nat.le_refl _
  | cons x r ih =>
    show (w1 x ++ wl r).length ≤ _
    rw [List.length_append, List.length_cons]
    have := w1_le x
    omega
theorem d1_wr (base : List Sec) (ws : List (Nat × Sec)) (n : Nat) (x : CallD) : (Uno base ws n).wr 0 x.s x.data = Uno base (ws ++ w1 x) (n + (w1 x).length) := by
  unfold Ds.wr
  have hat : (Uno base ws n).at? 0 = some ⟨base, ws, false, 0⟩ := rfl
  rw [hat]
  unfold w1
  dsimp only
  have h8 : ((Uno base ws n).size : Int) = 8 := rfl
  rw [h8]
  split
  · simp
  · rfl
theorem d1_br (base : List Sec) (ws : List (Nat × Sec)) (n : Nat) : (Uno base ws n).br 0 = Uno (put base ws) [] n := rfl
theorem d1_small (base : List Sec) (ws : List (Nat × Sec)) (n : Nat) (h1 : ws.length ≤ 1000000) (h2 : n ≤ 1000000) : Small (Uno base ws n) 1000000 := ⟨h2, fun r hr => by
  obtain rfl := List.mem_singleton.1 hr
  exact ⟨h1, by show (0 : Nat) < _; decide⟩⟩
theorem kept_all (ws : List (Nat × Sec)) : kept (bitOf 18446744073709551615) ws = ws := by
  have hb : ∀ i, bitOf 18446744073709551615 i = true := by
    intro i
    unfold bitOf
    have h : ∀ j, j < 64 → Nat.testBit 18446744073709551615 j = true := by decide +kernel
    exact h _ (Nat.mod_lt _ (by omega))
  unfold kept
  rw [List.filter_eq_self.2 (fun x _ => hb _)]
  exact List.zipIdx_map_fst 0 ws
theorem kept_no (ws : List (Nat × Sec)) : kept (bitOf 0) ws = [] := by
  have hb : ∀ i, bitOf 0 i = false := by
    intro i
    unfold bitOf
    exact Nat.zero_testBit _
  simp [kept, hb]
theorem d1_all (base : List Sec) (ws : List (Nat × Sec)) (n : Nat) : (Uno base ws n).crash (bitOf 18446744073709551615) = Uno (put base ws) [] n := by
  show Uno (put base (kept _ ws)) [] n = _
  rw [kept_all]
theorem d1_no (base : List Sec) (ws : List (Nat × Sec)) (n : Nat) : (Uno base ws n).crash (bitOf 0) = Uno base [] n := by
  show Uno (put base (kept _ ws)) [] n = _
  rw [kept_no]
  rfl
def Z8 : List Sec := List.replicate 8 zsec
/-- The disk behind k calls. -/
def a1 (base : List Sec) (cs : List CallD) (n k : Nat) : Ds := Uno base (wl (cs.take k)) (n + (wl (cs.take k)).length)
theorem a1_next {base : List Sec} {cs : List CallD} {n k : Nat} (h : k < cs.length) {x : CallD} (hx : cs[k] = x) : (a1 base cs n k).wr 0 x.s x.data = a1 base cs n (k + 1) := by
  subst hx
  unfold a1
  rw [d1_wr, wl_next h, List.length_append, Nat.add_assoc]
theorem a1_small (base : List Sec) (cs : List CallD) (n k : Nat) (h1 : cs.length ≤ 1000) (hn : n ≤ 1000) : Small (a1 base cs n k) 1000000 := by
  have h2 := wl_le (cs.take k)
  have h3 : (cs.take k).length ≤ cs.length := by rw [List.length_take]; omega
  exact d1_small _ _ _ (by omega) (by omega)
theorem a1_end (base : List Sec) (cs : List CallD) (n : Nat) : a1 base cs n cs.length = Uno base (wl cs) (n + (wl cs).length) := by unfold a1; rw [List.take_length]
section
variable {w : World} {X : Nat → Prop} {l : List (Nat × Ds)} {g n : Nat} {base : List Sec} {ws : List (Nat × Sec)}
theorem al_new (h : Many w X l) : Calls Try.prog 12 #[.int .i64 1, .int .i64 8] w fun e w' => ∃ g, e = .returned (ptr g) ∧ Many w' X (l ++ [(g, Uno Z8 [] 0)]) ∧ Below w.heap.size w w' := new_many h 1 8 (by omega) (by omega) (by omega) (by omega)
theorem al_br (i : Nat) (h : Many w X l) (hi : l[i]? = some (g, Uno base ws n)) : Calls Try.prog 15 #[ptr g, .int .i64 0] w fun e w' => e = .returned (.int .i64 0) ∧ Many w' X (l.set i (g, Uno (put base ws) [] n)) ∧ Out X w w' := barrier_many h hi 0
theorem al_c1 (i : Nat) (h : Many w X l) (hi : l[i]? = some (g, Uno base ws n)) (hs : Small (Uno base ws n) 1000000) : Calls Try.prog 16 #[ptr g, .int .u64 18446744073709551615] w fun e w' => e = .returned (.tuple #[]) ∧ Many w' X (l.set i (g, Uno (put base ws) [] n)) ∧ Out X w w' := by
  have := crash_many h hi hs 18446744073709551615
  rw [d1_all] at this
  exact this
theorem al_c2 (i : Nat) (h : Many w X l) (hi : l[i]? = some (g, Uno base ws n)) (hs : Small (Uno base ws n) 1000000) : Calls Try.prog 16 #[ptr g, .int .u64 0] w fun e w' => e = .returned (.tuple #[]) ∧ Many w' X (l.set i (g, Uno base [] n)) ∧ Out X w w' := by
  have := crash_many h hi hs 0
  rw [d1_no] at this
  exact this
theorem at0 {α : Type} {a : α} {l : List α} : (a :: l)[0]? = some a := rfl
theorem at1 {α : Type} {a b : α} {l : List α} : (a :: b :: l)[1]? = some b := rfl
theorem at2 {α : Type} {a b c : α} {l : List α} : (a :: b :: c :: l)[2]? = some c := rfl
theorem at3 {α : Type} {a b c d : α} {l : List α} : (a :: b :: c :: d :: l)[3]? = some d := rfl
/-- What is read. -/
def rs (base : List Sec) (k : Nat) : Sec := sec (Uno base [] 0) 0 (k : Int)
theorem al_rd (i : Nat) (h : Many w X l) (hi : l[i]? = some (g, Uno base [] n)) {k : Nat} (hk : k < 8) : Calls Try.prog 18 #[ptr g, .int .i64 0, .int .i64 (k : Int)] w fun e w' => e = .returned (.tuple #[.slice (some ⟨w.heap.size, 0, none⟩) 64 64, .int .i64 0]) ∧ (rs base k).length = 64 ∧ Blk w' w.heap.size 5 (blk8 (rs base k)) ∧ Many w' X l ∧ Below w.heap.size w w' :=
  m_read i h hi (n := 1) (m := 8) ⟨rfl, rfl⟩ (Int.le_refl _) (by decide) (by omega) (by omega)
theorem many_boxP {W : World} {P : Nat → Prop} (h : Many w P l) (hb : Below w.heap.size w W) (hs : W.heap.size = w.heap.size + 1) : Many W (fun k => P k ∨ k = w.heap.size) l := h.more hb (fun k hk => by
  rcases hk with hk | hk
  · exact .inl hk
  · exact .inr ⟨by omega, by omega⟩)
theorem many_unboxP {P : Nat → Prop} {m : Nat} (h : Many w (fun k => P k ∨ k = m) l) : Many w P l := h.more (Below.refl _ _) (fun _ hk => .inl (.inl hk))
end

set_option maxRecDepth 100000 in
set_option maxHeartbeats 16000000 in
theorem all_walk (va : Value) (ca : List CallD) (vb : Value) (cb : List CallD) (w : World) (hva : CallRow w w.heap.size va ca) (hvb : CallRow w w.heap.size vb cb) :
    Calls Try.prog 6 #[va, vb] w fun e w' => e = .returned (.bool true) ∧ Below w.heap.size w w' := by
  obtain ⟨A, c, rfl, _, fa⟩ := id hva
  obtain ⟨A', c', rfl, _, fb⟩ := id hvb
  by_cases hlong : 60 < ca.length
  · have hl : (60 : Int) < (ca.length : Int) := by omega
    go_enter Try.func6, Try.ntmps6
    go_wp2_with (go_at_call 11; refine (fit_any _).mono ?_; rintro e w1 ⟨rfl, hb1⟩)
    go_ret
    exact ⟨rfl, hb1⟩
  by_cases hlongb : 60 < cb.length
  · have hl : decide ((60 : Int) < (ca.length : Int)) = false := by simp; omega
    have hlb : (60 : Int) < (cb.length : Int) := by omega
    go_enter Try.func6, Try.ntmps6
    go_wp2_with (go_at_call 11; refine (fit_any _).mono ?_; rintro e w1 ⟨rfl, hb1⟩)
    go_ret
    exact ⟨rfl, hb1⟩
  have h60 : ca.length ≤ 60 := by omega
  have h60b : cb.length ≤ 60 := by omega
  have hl : decide ((60 : Int) < (ca.length : Int)) = false := by simp; omega
  have hlb : decide ((60 : Int) < (cb.length : Int)) = false := by simp; omega
  have HVA := hide hva
  have HVB := hide hvb
  have HFIT := hide (show ∀ x ∈ ca ++ cb, x.Fit w w.heap.size from fun x hx => (List.mem_append.1 hx).elim (fa x) (fb x))
  clear hva hvb fa fb hlong hlongb
  go_enter Try.func6, Try.ntmps6
  go_wp2_with (first
    | (go_at_call 11; refine (fit_any _).mono ?_; rintro e w1 ⟨rfl, hb1⟩; have HM0 := hide (show Many w1 (fun k => k < w.heap.size) [] from Many.nil (fun k h => Nat.lt_of_lt_of_le h hb1.size)); have HB1 := hide hb1; clear hb1)
    | (go_at_call 12; refine (al_new HM0.out).mono ?_; rintro e w2 ⟨d, rfl, hm2, hb2⟩; have HM2 := hide (show Many w2 _ [(d, Uno Z8 [] 0)] from hm2); have HB2 := hide (HB1.out.trans (hb2.mono HB1.out.size)); clear hm2 hb2)
    | (go_at_call 12; refine (al_new HM2.out).mono ?_; rintro e w3 ⟨e, rfl, hm3, hb3⟩; have HM3 := hide (show Many w3 _ [(d, Uno Z8 [] 0), (e, Uno Z8 [] 0)] from hm3); have HB3 := hide (HB2.out.trans (hb3.mono HB2.out.size)); clear hm3 hb3)
    | (go_at_call 12; refine (al_new HM3.out).mono ?_; rintro e w4 ⟨f, rfl, hm4, hb4⟩; have HM4 := hide (show Many w4 _ [(d, Uno Z8 [] 0), (e, Uno Z8 [] 0), (f, Uno Z8 [] 0)] from hm4); have HB4 := hide (HB3.out.trans (hb4.mono HB3.out.size)); clear hm4 hb4))
  go_loopw [39] (fun i wr => ∃ k : Nat, k ≤ ca.length ∧ i = .int .i64 k ∧ Many wr (fun k => k < w.heap.size) [(d, a1 Z8 ca 0 k), (e, a1 Z8 ca 0 k), (f, a1 Z8 ca 0 k)] ∧ Below w.heap.size w wr) (fun i _ => ca.length - (intOf i).toNat)
  case atStart => exact ⟨0, Nat.zero_le _, rfl, HM4.out, HB4.out⟩
  case round =>
    obtain ⟨k, hk, rfl, hm, hb⟩ := hrel
    by_cases hlt : k < ca.length
    · obtain ⟨b, o, cap, he, kd, r, s, A2, n, c2, l, mask, hck, hln, hn2, hmask, hrange, hrow, -, -, -⟩ := call_at HVA.out hb hlt
      injection he with e1 e2 e3
      subst e1
      subst e3
      have HNX := hide (a1_next (base := Z8) (n := 0) hlt hck)
      have HSM := hide (a1_small Z8 ca 0 k (by omega) (by omega))
      have HM := hide hm
      have HB := hide hb
      have HLN := hide hln
      have HRG := hide hrange
      have HRW := hide hrow
      have XIC := hide infoCall
      have XAC := hide (all_call kd r s A2 n c2 (mask : Int))
      have hk0 : (0 : Int) ≤ (k : Int) := by omega
      have hk1 : (k : Int) < (ca.length : Int) := by omega
      clear hm hb hln hrange hrow hck
      go_wp2_with (first
        | ((with_reducible refine wpList_load_mid rfl 36 (.tmp 41) rfl b (o + k * 5) rfl [.int .i64 kd, .int .i64 r, .int .i64 s, .slice A2 n c2, .int .u64 (mask : Int)] _ ?_ Try.underlying36 ?_ ?_ ?_); exact HRG.out; rfl; exact XIC.out)
        | ((with_reducible refine store_box 36 (.tmp 9) (.tmp 42) 5 _ #[.int .i64 kd, .int .i64 r, .int .i64 s, .slice A2 n c2, .int .u64 (mask : Int)] rfl rfl ?_ ?_ rfl rfl ?_ ?_ ?_); rfl; rfl; exact XIC.out; exact XAC.out; intro W2 hb2 hs2 hx2; have HMW := hide (many_boxP HM.out hb2 hs2); have HBW := hide (HB.out.trans (hb2.mono HB.out.size)); have HLW := hide (Nat.le_trans HB.out.size hb2.size); have HRW0 := hide (HRW.out.below (hb2.mono HB.out.size)); have hc2 := hx2.cell 2 _ rfl; have hc3 := hx2.cell 3 _ rfl; have HXB0 := hide hx2; have HO0 := hide (Out.refl (fun k => k < w.heap.size ∨ k = wr.heap.size) W2); clear hb2 hs2 hx2)
        | (go_at_call 13; (with_reducible refine (m_write 0 HMW.out at0 HSM.out 0 s HLN.out HRW0.out (Nat.le_trans HLW.out HO0.out.size)).mono ?_); rintro e w1 ⟨rfl, hm, ho⟩; have HM1 := hide (show Many w1 _ [(d, (a1 Z8 ca 0 k).wr 0 s l), (e, a1 Z8 ca 0 k), (f, a1 Z8 ca 0 k)] from hm); have hx := ho.blk HXB0.out (.inr rfl); have hc21 := hx.cell 2 _ rfl; have hc31 := hx.cell 3 _ rfl; have HXB1 := hide hx; have HRW1 := hide (ho.row HRW0.out (Nat.le_trans HLW.out HO0.out.size) (fun k hk => .inl (id  hk))); clear hx; have HO1 := hide (HO0.out.trans ho); clear hm ho)
        | (go_at_call 13; (with_reducible refine (m_write 1 HM1.out at1 HSM.out 0 s HLN.out HRW1.out (Nat.le_trans HLW.out HO1.out.size)).mono ?_); rintro e w2 ⟨rfl, hm, ho⟩; have HM2 := hide (show Many w2 _ [(d, (a1 Z8 ca 0 k).wr 0 s l), (e, (a1 Z8 ca 0 k).wr 0 s l), (f, a1 Z8 ca 0 k)] from hm); have hx := ho.blk HXB1.out (.inr rfl); have hc22 := hx.cell 2 _ rfl; have hc32 := hx.cell 3 _ rfl; have HXB2 := hide hx; have HRW2 := hide (ho.row HRW1.out (Nat.le_trans HLW.out HO1.out.size) (fun k hk => .inl (id  hk))); clear hx; have HO2 := hide (HO1.out.trans ho); clear hm ho)
        | (go_at_call 13; (with_reducible refine (m_write 2 HM2.out at2 HSM.out 0 s HLN.out HRW2.out (Nat.le_trans HLW.out HO2.out.size)).mono ?_); rintro e w3 ⟨rfl, hm, ho⟩; have HM3 := hide (show Many w3 _ [(d, (a1 Z8 ca 0 k).wr 0 s l), (e, (a1 Z8 ca 0 k).wr 0 s l), (f, (a1 Z8 ca 0 k).wr 0 s l)] from hm); have HO3 := hide (HO2.out.trans ho); clear hm ho))
      go_roundw
      case rel =>
        refine ⟨k + 1, by omega, by go_num, ?_, HBW.out.trans (HO3.out.below HLW.out (fun k hk => .inl hk))⟩
        have := many_unboxP HM3.out
        rw [HNX.out] at this
        exact this
      case measure => simp [intOf]; omega
    · have hkN : ca.length = k := by omega
      subst hkN
      obtain ⟨P, hP⟩ : ∃ P, put Z8 (wl ca) = P := ⟨_, rfl⟩
      obtain ⟨N, hN⟩ : ∃ N, 0 + (wl ca).length = N := ⟨_, rfl⟩
      have hN60 : N ≤ 60 := by have := wl_le ca; omega
      rw [a1_end] at hm
      have HP := hide hP
      have HMA := hide hm
      have HB := hide hb
      clear hm hb
      go_wp2_with (first
        | (go_at_call 15; (with_reducible refine (al_br 0 HMA.out at0).mono ?_); rintro e w5 ⟨rfl, hm, ho⟩; have HM5 := hide (show Many w5 _ [(d, Uno (put Z8 (wl ca)) [] (0 + (wl ca).length)), (e, Uno Z8 (wl ca) (0 + (wl ca).length)), (f, Uno Z8 (wl ca) (0 + (wl ca).length))] from hm); have HB5 := hide (HB.out.trans (ho.below HB.out.size (fun k hk => hk))); clear hm ho)
        | (go_at_call 15; (with_reducible refine (al_br 1 HM5.out at1).mono ?_); rintro e w6 ⟨rfl, hm, ho⟩; have HM6 := hide (show Many w6 _ [(d, Uno (put Z8 (wl ca)) [] (0 + (wl ca).length)), (e, Uno (put Z8 (wl ca)) [] (0 + (wl ca).length)), (f, Uno Z8 (wl ca) (0 + (wl ca).length))] from hm); have HB6 := hide (HB5.out.trans (ho.below HB5.out.size (fun k hk => hk))); clear hm ho)
        | (go_at_call 15; (with_reducible refine (al_br 2 HM6.out at2).mono ?_); rintro e w7 ⟨rfl, hm, ho⟩; have HM7 := hide (show Many w7 _ [(d, Uno (put Z8 (wl ca)) [] (0 + (wl ca).length)), (e, Uno (put Z8 (wl ca)) [] (0 + (wl ca).length)), (f, Uno (put Z8 (wl ca)) [] (0 + (wl ca).length))] from hm); have HB7 := hide (HB6.out.trans (ho.below HB6.out.size (fun k hk => hk))); clear hm ho))
      rw [hP, hN] at HM7
      clear hP hN
      go_loopw [70] (fun i wr => ∃ k : Nat, k ≤ cb.length ∧ i = .int .i64 k ∧ Many wr (fun k => k < w.heap.size) [(d, a1 P cb N k), (e, a1 P cb N k), (f, Uno P [] N)] ∧ Below w.heap.size w wr) (fun i _ => cb.length - (intOf i).toNat)
      case atStart => exact ⟨0, Nat.zero_le _, rfl, HM7.out, HB7.out⟩
      case round =>
        obtain ⟨k, hk, rfl, hm, hb⟩ := hrel
        by_cases hlt : k < cb.length
        · obtain ⟨b, o, cap, he, kd, r, s, A2, n, c2, l, mask, hck, hln, hn2, hmask, hrange, hrow, -, -, -⟩ := call_at HVB.out hb hlt
          injection he with e1 e2 e3
          subst e1
          subst e3
          have HNX := hide (a1_next (base := P) (n := N) hlt hck)
          have HSM := hide (a1_small P cb N k (by omega) (by omega))
          have HM := hide hm
          have HB := hide hb
          have HLN := hide hln
          have HRG := hide hrange
          have HRW := hide hrow
          have XIC := hide infoCall
          have XAC := hide (all_call kd r s A2 n c2 (mask : Int))
          have hk0 : (0 : Int) ≤ (k : Int) := by omega
          have hk1 : (k : Int) < (cb.length : Int) := by omega
          clear hm hb hln hrange hrow hck
          go_wp2_with (first
            | ((with_reducible refine wpList_load_mid rfl 36 (.tmp 72) rfl b (o + k * 5) rfl [.int .i64 kd, .int .i64 r, .int .i64 s, .slice A2 n c2, .int .u64 (mask : Int)] _ ?_ Try.underlying36 ?_ ?_ ?_); exact HRG.out; rfl; exact XIC.out)
            | ((with_reducible refine store_box 36 (.tmp 11) (.tmp 73) 5 _ #[.int .i64 kd, .int .i64 r, .int .i64 s, .slice A2 n c2, .int .u64 (mask : Int)] rfl rfl ?_ ?_ rfl rfl ?_ ?_ ?_); rfl; rfl; exact XIC.out; exact XAC.out; intro W2 hb2 hs2 hx2; have HMW := hide (many_boxP HM.out hb2 hs2); have HBW := hide (HB.out.trans (hb2.mono HB.out.size)); have HLW := hide (Nat.le_trans HB.out.size hb2.size); have HRW0 := hide (HRW.out.below (hb2.mono HB.out.size)); have hc2 := hx2.cell 2 _ rfl; have hc3 := hx2.cell 3 _ rfl; have HXB0 := hide hx2; have HO0 := hide (Out.refl (fun k => k < w.heap.size ∨ k = wr.heap.size) W2); clear hb2 hs2 hx2)
            | (go_at_call 13; (with_reducible refine (m_write 0 HMW.out at0 HSM.out 0 s HLN.out HRW0.out (Nat.le_trans HLW.out HO0.out.size)).mono ?_); rintro e w1 ⟨rfl, hm, ho⟩; have HM1 := hide (show Many w1 _ [(d, (a1 P cb N k).wr 0 s l), (e, a1 P cb N k), (f, Uno P [] N)] from hm); have hx := ho.blk HXB0.out (.inr rfl); have hc21 := hx.cell 2 _ rfl; have hc31 := hx.cell 3 _ rfl; have HXB1 := hide hx; have HRW1 := hide (ho.row HRW0.out (Nat.le_trans HLW.out HO0.out.size) (fun k hk => .inl (id  hk))); clear hx; have HO1 := hide (HO0.out.trans ho); clear hm ho)
            | (go_at_call 13; (with_reducible refine (m_write 1 HM1.out at1 HSM.out 0 s HLN.out HRW1.out (Nat.le_trans HLW.out HO1.out.size)).mono ?_); rintro e w2 ⟨rfl, hm, ho⟩; have HM2 := hide (show Many w2 _ [(d, (a1 P cb N k).wr 0 s l), (e, (a1 P cb N k).wr 0 s l), (f, Uno P [] N)] from hm); have HO2 := hide (HO1.out.trans ho); clear hm ho))
          go_roundw
          case rel =>
            refine ⟨k + 1, by omega, by go_num, ?_, HBW.out.trans (HO2.out.below HLW.out (fun k hk => .inl hk))⟩
            have := many_unboxP HM2.out
            rw [HNX.out] at this
            exact this
          case measure => simp [intOf]; omega
        · have hkN : cb.length = k := by omega
          subst hkN
          rw [a1_end] at hm
          obtain ⟨V, hV⟩ : ∃ V, wl cb = V := ⟨_, rfl⟩
          obtain ⟨M, hM⟩ : ∃ M, N + (wl cb).length = M := ⟨_, rfl⟩
          have hM200 : M ≤ 200 := by have := wl_le cb; omega
          obtain ⟨T, hT⟩ : ∃ T, ca.length + cb.length = T := ⟨_, rfl⟩
          have hT120 : T ≤ 120 := by omega
          have HT := hide hT
          clear hT
          have hV60 : V.length ≤ 60 := by rw [← hV]; exact Nat.le_trans (wl_le cb) h60b
          rw [hM, hV] at hm
          have HVV := hide hV
          have HMA := hide hm
          have HB := hide hb
          clear hm hb hM hV
          go_wp2_with (first
            | (go_at_call 12; refine (al_new HMA.out).mono ?_; rintro e w8 ⟨g, rfl, hm, hb⟩; have HM8 := hide (show Many w8 _ [(d, Uno P V M), (e, Uno P V M), (f, Uno P [] N), (g, Uno Z8 [] 0)] from hm); have HB8 := hide (HB.out.trans (hb.mono HB.out.size)); have HCA := hide (HVA.out.below HB8.out); clear hm hb)
            | (at_builtin; refine wpList_append_calls (.const (.slice none 0 0)) (.tmp 88) (.slice none 0 0) 0 [] ca A ca.length c rfl rfl rfl rfl (own5_nil w8 w8.heap.size _) rfl HCA.out (by omega) (Nat.le_refl _) ?_; intro v9 w9 hown9 hgr9 hat9; rw [List.nil_append, Nat.zero_add] at hown9; obtain ⟨A9, c9, rfl⟩ := own5_form hown9; have hb9 := below_grown (B := w8.heap.size) hgr9 (.inl rfl) (Nat.le_refl _); have HO9 := hide hown9; have HAT9 := hide hat9; have HB9 := hide hb9; have HCB := hide ((HVB.out.below HB8.out).below (hb9.mono HB8.out.size)); clear hown9 hgr9 hat9 hb9)
            | (at_builtin; refine wpList_append_calls (.tmp 89) (.tmp 90) (.slice A9 ca.length c9) ca.length ca cb A' cb.length c' rfl rfl rfl rfl HO9.out rfl HCB.out (by omega) HB9.out.size ?_; intro v10 w10 hown10 hgr10 hat10; rw [HT.out] at hown10; obtain ⟨A10, c10, rfl⟩ := own5_form hown10; have hb10 := below_grown (B := w8.heap.size) hgr10 (.inr (own_ge HO9.out)) HB9.out.size; have HO10 := hide hown10; have HB10 := hide (HB9.out.trans hb10); clear hgr10 hat10 hb10))
          have HM10 := hide (show Many w10 (fun k => k < w.heap.size ∨ A10 = some ⟨k, 0, none⟩) _ from HM8.out.more HB10.out (fun k hk => by
            rcases hk with hk | hk
            · exact .inl hk
            · refine .inr ⟨own_ge HO10.out k (by rw [hk]; rfl), ?_⟩
              rcases HO10.out.2 with ⟨e, _⟩ | ⟨g', cap, cur, e, _, hb, _⟩
              · injection e with e
                rw [e] at hk
                cases hk
              · injection e with e
                rw [e] at hk
                injection hk with hk
                have hk' : g' = k := by injection hk
                rw [← hk']
                exact Blk.lt hb))
          have HC10 := hide (CallsIn.of_own HO10.out)
          have HB11 := hide (HB8.out.trans (HB10.out.mono HB8.out.size))
          go_loopw [93] (fun i wr => ∃ k : Nat, k ≤ T ∧ i = .int .i64 k ∧ Many wr (fun k => k < w.heap.size ∨ A10 = some ⟨k, 0, none⟩) [(d, Uno P V M), (e, Uno P V M), (f, Uno P [] N), (g, a1 Z8 (ca ++ cb) 0 k)] ∧ CallsIn wr A10 T (ca ++ cb) ∧ Below w.heap.size w wr) (fun i _ => T - (intOf i).toNat)
          case atStart => exact ⟨0, Nat.zero_le _, rfl, HM10.out, HC10.out, HB11.out⟩
          case round =>
            obtain ⟨k, hk, rfl, hm, hc, hb⟩ := hrel
            have hTl : T = (ca ++ cb).length := by rw [List.length_append, HT.out]
            by_cases hlt : k < T
            · obtain ⟨gq, hA, kd, r, s, A2, n, c2, l, mask, hck, hln, hn2, hrange, hrow⟩ := hc.at hTl hlt HFIT.out hb
              subst hA
              have HNX := hide (a1_next (base := Z8) (n := 0) (hTl ▸ hlt) hck)
              have HSM := hide (a1_small Z8 (ca ++ cb) 0 k (by rw [← hTl, ← HT.out]; omega) (by omega))
              have HCI := hide hc
              have HM := hide hm
              have HB := hide hb
              have HLN := hide hln
              have HRG := hide hrange
              have HRW := hide hrow
              have XIC := hide infoCall
              have XAC := hide (all_call kd r s A2 n c2 (mask : Int))
              have hk0 : (0 : Int) ≤ (k : Int) := by omega
              have hk1 : (k : Int) < (T : Int) := by omega
              clear hm hb hln hrange hrow hck hc hTl
              go_wp2_with (first
                | ((with_reducible refine wpList_load_mid rfl 36 (.tmp 95) rfl gq (k * 5) rfl [.int .i64 kd, .int .i64 r, .int .i64 s, .slice A2 n c2, .int .u64 (mask : Int)] _ ?_ Try.underlying36 ?_ ?_ ?_); exact HRG.out; rfl; exact XIC.out)
                | ((with_reducible refine store_box 36 (.tmp 14) (.tmp 96) 5 _ #[.int .i64 kd, .int .i64 r, .int .i64 s, .slice A2 n c2, .int .u64 (mask : Int)] rfl rfl ?_ ?_ rfl rfl ?_ ?_ ?_); rfl; rfl; exact XIC.out; exact XAC.out; intro W2 hb2 hs2 hx2; have HMW := hide (many_boxP HM.out hb2 hs2); have HBW := hide (HB.out.trans (hb2.mono HB.out.size)); have HLW := hide (Nat.le_trans HB.out.size hb2.size); have HRW0 := hide (HRW.out.below (hb2.mono HB.out.size)); have hc2 := hx2.cell 2 _ rfl; have hc3 := hx2.cell 3 _ rfl; have HXB0 := hide hx2; have HO0 := hide (Out.refl (fun k => (k < w.heap.size ∨ some (⟨gq, 0, none⟩ : Addr) = some ⟨k, 0, none⟩) ∨ k = wr.heap.size) W2); have HBO := hide hb2; clear hb2 hs2 hx2)
                | (go_at_call 13; (with_reducible refine (m_write 3 HMW.out at3 HSM.out 0 s HLN.out HRW0.out (Nat.le_trans HLW.out HO0.out.size)).mono ?_); rintro e w1 ⟨rfl, hm, ho⟩; have HM1 := hide (show Many w1 _ [(d, Uno P V M), (e, Uno P V M), (f, Uno P [] N), (g, (a1 Z8 (ca ++ cb) 0 k).wr 0 s l)] from hm); have HO1 := hide (HO0.out.trans ho); clear hm ho))
              go_roundw
              case rel =>
                refine ⟨k + 1, by omega, by go_num, ?_, ?_, HBW.out.trans (HO1.out.below HLW.out (fun k hk => .inl (.inl hk)))⟩
                · have := many_unboxP HM1.out
                  rw [HNX.out] at this
                  exact this
                · exact (HCI.out.below HBO.out).out HO1.out (fun g hg => .inl (.inr hg))
              case measure => simp [intOf]; omega
            · have hkN : T = k := by omega
              subst hkN
              have hm2 := hm
              rw [hTl, a1_end] at hm2
              obtain ⟨Q, hQ⟩ : ∃ Q, put P V = Q := ⟨_, rfl⟩
              have hQ2 : put Z8 (wl (ca ++ cb)) = Q := by rw [wl_append, put_append, HP.out, HVV.out, hQ]
              have hL : (wl (ca ++ cb)).length ≤ 200 := by have := wl_le (ca ++ cb); rw [List.length_append] at this; omega
              obtain ⟨N4, hN4⟩ : ∃ N4, 0 + (wl (ca ++ cb)).length = N4 := ⟨_, rfl⟩
              rw [hN4] at hm2
              obtain ⟨V4, hV4⟩ : ∃ V4, wl (ca ++ cb) = V4 := ⟨_, rfl⟩
              rw [hV4] at hm2 hQ2
              have HQ := hide hQ
              have HQ2 := hide hQ2
              have HMA := hide hm2
              have HBA := hide hb
              have HSD := hide (d1_small P V M (by omega) (by omega))
              clear hm hm2 hb hc hQ hQ2 hL hN4 hV4 hTl
              go_wp2_with (first
                | (go_at_call 15; (with_reducible refine (al_br 3 HMA.out at3).mono ?_); rintro e w11 ⟨rfl, hm, ho⟩; rw [HQ2.out] at hm; have HM11 := hide (show Many w11 _ [(d, Uno P V M), (e, Uno P V M), (f, Uno P [] N), (g, Uno Q [] N4)] from hm); have HB11 := hide (HBA.out.trans (ho.below HBA.out.size (fun k hk => .inl hk))); clear hm ho)
                | (go_at_call 16; (with_reducible refine (al_c1 0 HM11.out at0 HSD.out).mono ?_); rintro e w12 ⟨rfl, hm, ho⟩; rw [HQ.out] at hm; have HM12 := hide (show Many w12 _ [(d, Uno Q [] M), (e, Uno P V M), (f, Uno P [] N), (g, Uno Q [] N4)] from hm); have HB12 := hide (HB11.out.trans (ho.below HB11.out.size (fun k hk => .inl hk))); clear hm ho)
                | (go_at_call 16; (with_reducible refine (al_c2 1 HM12.out at1 HSD.out).mono ?_); rintro e w13 ⟨rfl, hm, ho⟩; have HM13 := hide (show Many w13 _ [(d, Uno Q [] M), (e, Uno P [] M), (f, Uno P [] N), (g, Uno Q [] N4)] from hm); have HB13 := hide (HB12.out.trans (ho.below HB12.out.size (fun k hk => .inl hk))); clear hm ho))
              go_loopw [110] (fun i wr => ∃ k : Nat, k ≤ 8 ∧ i = .int .i64 k ∧ Many wr (fun k => k < w.heap.size ∨ A10 = some ⟨k, 0, none⟩) [(d, Uno Q [] M), (e, Uno P [] M), (f, Uno P [] N), (g, Uno Q [] N4)] ∧ Below w.heap.size w wr) (fun i _ => 8 - (intOf i).toNat)
              case atStart => exact ⟨0, Nat.zero_le _, rfl, HM13.out, HB13.out⟩
              case round =>
                obtain ⟨k, hk, rfl, hm, hb⟩ := hrel
                by_cases hlt : k < 8
                · have HM := hide hm
                  have HB := hide hb
                  have hk0 : (0 : Int) ≤ (k : Int) := by omega
                  have hk1 : (k : Int) < 8 := by omega
                  clear hm hb
                  go_wp2_with (first
                    | (go_at_call 18; (with_reducible refine (al_rd 0 HM.out at0 hlt).mono ?_); rintro e w14 ⟨rfl, hp, hx, hm, hb⟩; have HPQ := hide hp; have HX14 := hide hx; have HM14 := hide hm; have HB14 := hide (HB.out.trans (hb.mono HB.out.size)); clear hp hx hm hb)
                    | (go_at_call 18; (with_reducible refine (al_rd 3 HM14.out at3 hlt).mono ?_); rintro e w15 ⟨rfl, hp, hx, hm, hb⟩; have HX15 := hide hx; have HX14b := hide (blk_below HX14.out hb); have HM15 := hide hm; have HB15 := hide (HB14.out.trans (hb.mono HB14.out.size)); clear hp hx hm hb)
                    | (go_at_call 18; (with_reducible refine (al_rd 1 HM15.out at1 hlt).mono ?_); rintro e w16 ⟨rfl, hp, hx, hm, hb⟩; have HPP := hide hp; have HX16 := hide hx; have HX14c := hide (blk_below HX14b.out hb); have HX15c := hide (blk_below HX15.out hb); have HM16 := hide hm; have HB16 := hide (HB15.out.trans (hb.mono HB15.out.size)); clear hp hx hm hb)
                    | (go_at_call 18; (with_reducible refine (al_rd 2 HM16.out at2 hlt).mono ?_); rintro e w17 ⟨rfl, hp, hx, hm, hb⟩; have hv1 := conv_blk 64 HPQ.out (blk_below HX14c.out hb); have hv2 := conv_blk 64 HPQ.out (blk_below HX15c.out hb); have hv3 := conv_blk 64 HPP.out (blk_below HX16.out hb); have hv4 := conv_blk 64 HPP.out hx; have HM17 := hide hm; have HB17 := hide (HB16.out.trans (hb.mono HB16.out.size)); clear hp hx hm hb))
                  go_roundw
                  case rel => exact ⟨k + 1, by omega, by go_num, HM17.out, HB17.out⟩
                  case measure => simp [intOf]; omega
                · have hkN : 8 = k := by omega
                  subst hkN
                  have HB := hide hb
                  clear hm hb
                  go_wp2
                  go_ret
                  exact ⟨rfl, HB.out⟩
end Go.Proofs.Ytjlfepmdnphenaa
