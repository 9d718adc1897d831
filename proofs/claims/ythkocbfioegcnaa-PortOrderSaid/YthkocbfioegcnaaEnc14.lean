/-
  Package port: Encode.
-/
import Derived.Test.YthkocbfioegcnaaPort14
import Derived.Test.YthkocbfioegcnaaSum
namespace Go.Proofs.Ythkocbfioegcnaa
open Go.RowKit Crc
set_option maxRecDepth 20000
set_option linter.unusedSimpArgs false
set_option linter.unusedVariables false

section
variable {w w' w0 : World} {b : Nat} {v x : Value} {l m : List UInt8}
theorem Mine.bel (h : Mine w b v l) (hb : Below b w0 w) (hs : b ≤ w.heap.size) (hg : w.grownBy w' v.ownBlock) : Below b w0 w' := hb.grown hg hs fun k hk => (World.ownsRow.lt h k hk).1
theorem mine_app (h : Mine w b v l) (hx : Rd w x (u8s m)) (hl : l.length + m.length ≤ 1000000000000) (hb : b ≤ w.heap.size) (ty : TypeId) :
    ∃ v' w', (Builtin.append_ #[26, 26] ty #[v, x]).run Try.prog w = .ok v' w' ∧ Mine w' b v' (l ++ m) ∧ w.grownBy w' v.ownBlock := by
  obtain ⟨i0, hi, hz0, hz1, hz2⟩ := info_parts info8
  obtain ⟨v', w', h1, h2, h3, _⟩ := run_append_rd (P := Try.prog) 26 ty 5 i0 _ 1 Try.underlying26 hi hz0 hz1 hz2 rfl v l.length (u8s l) h x (u8s m) hx (oneCell_u8s m) (by rw [u8s_length]; unfold maxLen; omega) (by rw [u8s_length]; omega) hb
  refine ⟨v', w', h1, ?_, h3⟩
  rw [u8s_length, ← u8s_append] at h2
  unfold Mine
  rw [List.length_append]
  exact h2
theorem mine_text {s : ByteArray} (h : Mine w b v l) (hl : l.length + s.size ≤ 1000000000000) (hb : b ≤ w.heap.size) (ty : TypeId) :
    ∃ v' w', (Builtin.append_ #[26, 9] ty #[v, .string s]).run Try.prog w = .ok v' w' ∧ Mine w' b v' (l ++ s.data.toList) ∧ w.grownBy w' v.ownBlock := by
  obtain ⟨i0, hi, hz0, hz1, hz2⟩ := info_parts info8
  obtain ⟨v', w', h1, h2, h3, _⟩ := Lib.run_append_own_string (P := Try.prog) w b 26 9 ty 5 i0 Try.underlying26 Try.underlying9 hi hz0 hz1 hz2 v l.length (u8s l) h s (by unfold maxLen; omega) (by omega) hb
  refine ⟨v', w', h1, ?_, h3⟩
  rw [strCells_u8s, ← u8s_append] at h2
  unfold Mine
  rw [List.length_append, size_list]
  exact h2
end
theorem wpList_app2 {P : Program} {ops : Array Oper} {rest : List Oper} {o : Oper} {a : Act} {Q : Exit → Act → World → Prop} {w w' : World} {v u v' : Value} (hw : Region.wanted o (yielded ops a.tmps) = true) (s y : Operand) (t t2 : TypeId)
    (ho : o.op = .call { callee := .builtin .append, args := #[s, y], argTypes := #[t, t2] }) (hs : a.eval s = v) (hy : a.eval y = u) (hr : (Builtin.append_ #[t, t2] o.type #[v, u]).run P w = .ok v' w') (hK : wpList P ops Q rest (a.put o.dst v') w') : wpList P ops Q (o :: rest) a w := by
  unfold wpList
  rw [if_pos hw]
  refine .inl ?_
  unfold Oper.wp
  simp [execOp, ho, resolve, invoke, builtin, hs, hy, hr, Result.andThen]
  exact hK
theorem put_2q (v : Value) (l : List UInt8) (x : Nat) (w : World) (hm : l.length ≤ 70368744177000) (hv : Rd w v (u8s l)) : Calls Try.prog 20 #[v, .int .i64 2, .int .u64 (x : Int)] w fun e w' => ∃ v', e = .returned v' ∧ Mine w' w.heap.size v' (l ++ be 2 x) ∧ Below w.heap.size w w' :=
  put_any v l 2 x w hm (by omega) (by omega) hv
theorem put_4q (v : Value) (l : List UInt8) (x : Nat) (w : World) (hm : l.length ≤ 70368744177000) (hv : Rd w v (u8s l)) : Calls Try.prog 20 #[v, .int .i64 4, .int .u64 (x : Int)] w fun e w' => ∃ v', e = .returned v' ∧ Mine w' w.heap.size v' (l ++ be 4 x) ∧ Below w.heap.size w w' :=
  put_any v l 4 x w hm (by omega) (by omega) hv
theorem put_4w (v : Value) (l : List UInt8) (c : BitVec 32) (w : World) (hm : l.length ≤ 70368744177000) (hv : Rd w v (u8s l)) : Calls Try.prog 20 #[v, .int .i64 4, .int .u64 (w32 c)] w fun e w' => ∃ v', e = .returned v' ∧ Mine w' w.heap.size v' (l ++ be 4 c.toNat) ∧ Below w.heap.size w w' := put_4q v l c.toNat w hm hv
theorem Mine.deep {w : World} {b b' : Nat} {v : Value} {l : List UInt8} (h : Mine w b v l) (hb : b' ≤ b) : Mine w b' v l := ⟨h.1, h.2.imp id (fun ⟨g, cap, cur, e, h0, h1⟩ => ⟨g, cap, cur, e, Nat.le_trans hb h0, h1⟩)⟩
set_option maxHeartbeats 4000000 in
theorem pencode_no {w : World} {v : Value} {l : List Rw} (hv : Rws w v l) (hl : l.length ≤ 70000) (hr : ¬ Ris l) : Calls Try.prog 14 #[v] w fun e w' => e = .returned (.slice none 0 0) ∧ Below w.heap.size w w' := by
  have HP := hide (prising_any hv hl)
  rw [risB_no hr] at HP
  clear hv hl hr
  go_enter Try.func14, Try.ntmps14
  go_wp2_with (go_at_call 19; (with_reducible refine HP.out.mono ?_); rintro e w2 ⟨rfl, hb2⟩; have HB2 := hide hb2; clear hb2)
  go_ret
  exact ⟨rfl, HB2.out⟩
set_option maxHeartbeats 8000000 in
theorem pencode_yes {w : World} {v : Value} {l : List Rw} (hv : Rws w v l) (hl : l.length < 65536) (hr : Ris l) : Calls Try.prog 14 #[v] w fun e w' => ∃ u, e = .returned u ∧ Mine w' w.heap.size u (portL l) ∧ Below w.heap.size w w' := by
  suffices hsuf : ∀ PP : Value → World → Prop, (∀ u W', Mine W' w.heap.size u (portL l) → Below w.heap.size w W' → PP u W') → Calls Try.prog 14 #[v] w fun e W' => ∃ u, e = .returned u ∧ PP u W' from hsuf _ (fun _ _ h1 h2 => ⟨h1, h2⟩)
  intro PP hPP
  have HPP := hide hPP
  obtain ⟨A, c, rfl⟩ := hv.form
  have HP := hide (prising_any hv (by omega))
  rw [risB_yes hr] at HP
  have HV := hide hv
  have HR := hide hr
  have HSZ := hide hr.size
  have hl1 : (l.length : Int) < 65536 := by omega
  have hl2 : IntKind.u64.wrap (l.length : Int) = (l.length : Int) := by rw [IntKind.wrap_u64]; omega
  clear hv hr hPP
  have kc := fun (w : World) (C : Array Value) (n c : Nat) => Lib.run_convert_bytes_const (P := Try.prog) w 26 5 C n c Try.underlying26 Try.underlying5
  go_enter Try.func14, Try.ntmps14
  go_upto_region 4 with (first
    | (go_at_call 19; (with_reducible refine HP.out.mono ?_); rintro e w2 ⟨rfl, hb2⟩; have HB2 := hide hb2; have HH := hide (Rd.new_ (xs := u8s headL) w2 (g := w2.heap.size) (n := 4) (c := 4) #[.int .u8 84, .int .u8 78, .int .u8 77, .int .u8 49] 5 (4, 5) rfl rfl (Nat.le_refl _) rfl); clear hb2)
    | (go_at_call 20; (with_reducible refine (put_2q _ headL l.length _ (by decide) HH.out).mono ?_); rintro e w3 ⟨v3, rfl, hm3, hb3⟩; have HM3 := hide (show Mine w3 w.heap.size v3 (headL ++ be 2 l.length ++ rowsL (l.take 0)) by rw [List.take_zero, rowsL_nil, List.append_nil]; exact hm3.deep (Nat.le_trans HB2.out.size (by simp))); have HB3 := hide ((HB2.out.alloc HB2.out.size _).trans (hb3.mono (Nat.le_trans HB2.out.size (by simp)))); clear hm3 hb3))
  go_wp2
  clear HP HB2 HH kc
  go_loopw [3, 17] (fun u i wr => ∃ j : Nat, j ≤ l.length ∧ i = .int .i64 j ∧ Hid (Below w.heap.size w wr) ∧ Hid (Mine wr w.heap.size u (headL ++ be 2 l.length ++ rowsL (l.take j)))) (fun _ i _ => l.length - (intOf i).toNat)
  case atStart => exact ⟨0, by omega, rfl, HB3, HM3⟩
  case round =>
    obtain ⟨j, hj, rfl, hbl, hm⟩ := hrel
    by_cases hlt : j < l.length
    · obtain ⟨x, hc⟩ : ∃ x, l[j]? = some x := ⟨_, List.getElem?_eq_getElem hlt⟩
      obtain ⟨b, o, rfl, i0, i1, i2⟩ := HV.out.at_ hbl.out hc
      have q0 : (0 : Int) ≤ (j : Int) := by omega
      have q1 : (j : Int) < (l.length : Int) := by omega
      have HLT := hide hlt
      have HTK : Hid (headL ++ be 2 l.length ++ rowsL (l.take (j + 1)) = headL ++ be 2 l.length ++ rowsL (l.take j) ++ rowL x) := hide (by rw [List.take_add_one, hc]; show _ ++ rowsL (l.take j ++ [x]) = _; rw [rowsL_snoc, List.append_assoc, List.append_assoc, List.append_assoc])
      have HOK := hide (HR.out.ok x (List.mem_of_getElem? hc))
      have HLN := hide (show (headL ++ be 2 l.length ++ rowsL (l.take j)).length + (rowL x).length ≤ 1000000000000 by
        have h1 := (HR.out.take j).size
        have h2 := okR_iff.1 HOK.out
        rw [List.length_append, List.length_append, be_length, rowL_length]
        rw [List.length_take] at h1
        have : min j l.length * 39 ≤ 65536 * 39 := Nat.mul_le_mul_right _ (by omega)
        simp only [headL, List.length_cons, List.length_nil]
        omega)
      clear hlt hc
      go_wp2_with (first
        | (go_at_call 21; (with_reducible refine (lay_any HOK.out).mono ?_); rintro e w4 ⟨u4, rfl, hr4, hb4⟩; have HB4 := hide (((hbl.out.alloc hbl.out.size _).trans (hb4.mono (Nat.le_trans hbl.out.size (by simp))))); have hm4 := (hm.out.alloc (.cells #[.int .i64 x.t, .string x.k, .string x.v] 32)).below hb4; obtain ⟨v5, w5, hrun, hm5, hg5⟩ := mine_app hm4 hr4 HLN.out HB4.out.size 26; have HRUN := hide hrun; have HM5 := hide hm5; have HB5 := hide (hm4.bel HB4.out HB4.out.size hg5); clear hr4 hb4 hm4 hrun hm5 hg5)
        | (at_builtin; refine wpList_app2 (by first | rfl | simp [Region.wanted, yielded]) (.tmp 21) (.tmp 23) 26 26 rfl rfl rfl HRUN.out ?_))
      go_roundw
      case rel => exact ⟨j + 1, by have := HLT.out; omega, by go_num, HB5, hide (by rw [HTK.out]; exact HM5.out)⟩
      case measure => simp [intOf]; have := HLT.out; omega
    · have q1 : ¬ (j : Int) < (l.length : Int) := by omega
      go_upto_region 9 with (fail)
      have HM : Hid (Mine wr w.heap.size u3 (bodyL l)) := hide (by have h := hm.out; rw [List.take_of_length_le (by omega)] at h; exact h)
      have HBN : Hid ((bodyL l).length ≤ 3000000) := hide (by
        have := HSZ.out
        rw [bodyL_length]
        have : l.length * 39 ≤ 65536 * 39 := Nat.mul_le_mul_right _ (by omega)
        omega)
      clear hm
      obtain ⟨A3, c3, e3⟩ := HM.out.form
      generalize (bodyL l).length = n3 at e3
      subst e3
      have HPORT : Hid (bodyL l ++ be 4 (crc (bodyL l)).toNat = portL l) := hide rfl
      have HSUM := hide (fun (w : World) (g : Nat) (u : Value) (hb : Blk w g 26 #[u]) (hu : Rd w u (u8s (bodyL l))) => of_one hb hu (by have := HBN.out; unfold maxLen; omega))
      generalize crc (bodyL l) = cr at HPORT HSUM
      have hwr : IntKind.u64.wrap (w32 cr) = w32 cr := by rw [IntKind.wrap_u64]; have := w32_lo cr; have := w32_hi cr; omega
      clear q1 hl1 hl2 hj hlt hl
      have HBA := hide (HM.out.below (((Below.refl wr.heap.size wr).alloc (Nat.le_refl _) (.cells #[.slice A3 n3 c3] 26)))).rd
      have HOF := hide (HSUM.out (wr.alloc (.cells #[.slice A3 n3 c3] 26)) wr.heap.size (.slice A3 n3 c3) (heap_new wr _) HBA.out)
      go_wp2_with (first
        | (go_at_call 22; (with_reducible refine HOF.out.mono ?_); rintro e w4 ⟨rfl, rfl⟩)
        | (go_at_call 20; (with_reducible refine (put_4w _ (bodyL l) cr _ (by have := HBN.out; omega) HBA.out).mono ?_); rintro e w5 ⟨v5, rfl, hm5, hb5⟩))
      go_ret
      rw [HPORT.out] at hm5
      exact ⟨_, rfl, HPP.out _ _ (hm5.deep (Nat.le_trans hbl.out.size (by simp))) ((hbl.out.alloc hbl.out.size _).trans (hb5.mono (Nat.le_trans hbl.out.size (by simp))))⟩
end Go.Proofs.Ythkocbfioegcnaa
