/-
  PoolTorn's walk.
-/
import Derived.Test.YtkdcnddagebjpaaFit8
import Derived.LaidEqlPtr
namespace Go.Proofs.Ytkdcnddagebjpaa
open Go.RowKit
set_option maxRecDepth 20000
set_option linter.unusedSimpArgs false
set_option linter.unusedVariables false

/-- The sectors of a page of which the third one was written. -/
def TornS (S : List Sec) (n : Nat) (y : UInt8) : Prop := ∀ j, j < 4 → S.getD (514 + 4 * n + j) zsec = if j = 2 then pad [y] else zsec
theorem torn_bytes {S : List Sec} {n : Nat} {y : UInt8} (h : TornS S n y) : pgB S n 4 = ((zsec ++ zsec) ++ pad [y]) ++ zsec := by
  simp only [pgB, h 0 (by omega), h 1 (by omega), h 2 (by omega), h 3 (by omega), List.nil_append]
  rfl
theorem torn_not {S : List Sec} {r n : Nat} {y : UInt8} (hr : r < 65536) (hn : n < 65536) (hy : y ≠ 0) (h : TornS S n y) {x : Pg} (hx : DecP (pgB S n 4) r n x 0) : False := by
  obtain ⟨hg, _, _, he, _⟩ := DecP.good hr hn hx
  rw [torn_bytes h] at he
  by_cases h0 : x.mark = 0
  · have e1 : x.encL = z256 := by unfold Pg.encL; rw [if_pos h0]
    rw [e1] at he
    have this : z256[128]? = _ := congrArg (fun l : List UInt8 => l[128]?) he
    have ez : z256[128]? = some 0 := by unfold z256; rw [List.getElem?_replicate, if_pos (by omega)]
    have ey : (((zsec ++ zsec) ++ pad [y]) ++ zsec)[128]? = some y := by
      have l1 : (zsec ++ zsec).length = 128 := by simp [zsec]
      rw [List.getElem?_append_left (by rw [List.length_append, l1, pad_length _ (by simp)]; omega), List.getElem?_append_right (by rw [l1]; omega), l1]
      rfl
    rw [ez, ey] at this
    exact hy (Option.some.inj this).symm
  · have e1 : x.encL = x.secs 4 := by unfold Pg.encL; rw [if_neg h0]
    rw [e1, Pg.secs_all] at he
    have this : val (_) = val (_) := congrArg (fun l : List UInt8 => val (l.take 8)) he
    have e2 : (x.sec 0 ++ (x.sec 1 ++ (x.sec 2 ++ (x.sec 3 ++ [])))).take 8 = be 8 x.mark := by
      unfold Pg.sec
      rw [List.append_assoc, List.take_append_of_le_length (by rw [be_length]; exact Nat.le_refl 8), List.take_of_length_le (by rw [be_length]; omega)]
    have e3 : (((zsec ++ zsec) ++ pad [y]) ++ zsec).take 8 = List.replicate 8 0 := by
      rw [List.append_assoc, List.append_assoc, List.take_append_of_le_length (by simp [zsec])]
      simp [zsec]
    rw [e2, e3, val_be] at this
    have hz : val (List.replicate 8 0) = 0 := by decide
    rw [hz] at this
    have := hg.1
    omega
/-- A byte with its lowest bit set. -/
theorem or_one : ∀ m : Nat, m < 256 → ∃ y : Nat, y < 256 ∧ y ≠ 0 ∧ bits .or .u8 (m : Int) 1 = (y : Int) := by
  intro m hm
  have h2 : bits .or .u8 (m : Int) 1 = IntKind.u8.wrap (((BitVec.ofInt 8 (m : Int) ||| BitVec.ofInt 8 (1 : Int)).toNat : Int)) := rfl
  have h3 : (BitVec.ofInt 8 (m : Int)).toNat = m := by rw [BitVec.toNat_ofInt]; omega
  have h4 : (BitVec.ofInt 8 (1 : Int)).toNat = 1 := by decide
  have h5 : (m ||| 1) < 256 := by have := Nat.or_lt_two_pow (x := m) (y := 1) (n := 8) hm (by omega); omega
  have h6 : m ||| 1 ≠ 0 := by
    intro e
    have := Nat.right_le_or (n := m) (m := 1)
    omega
  refine ⟨m ||| 1, h5, h6, ?_⟩
  rw [h2, BitVec.toNat_or, h3, h4]
  rw [IntKind.wrap_u8]
  omega
section
variable {w w' : World} {X Y : Nat → Prop} {dg : Nat} {d : Ds} {g q r k gen s : Nat}
/-- Behind the write: a pool with nothing at hand. -/
def TornAt (w : World) (X : Nat → Prop) (dg g q n : Nat) (y : UInt8) (P : Po) : Prop :=
  ∃ d l kv gr k, PAt w X dg d g l kv q P ∧ DIs d 0 gr k ∧ d.size = 538 ∧ P.r = 0 ∧ TornS gr.secs n y
theorem TornAt.below {n : Nat} {y : UInt8} {P : Po} (h : TornAt w X dg g q n y P) (hb : Below w.heap.size w w') : TornAt w' X dg g q n y P := by
  obtain ⟨d, l, kv, gr, k, h1, h2⟩ := h
  exact ⟨d, l, kv, gr, k, h1.below hb, h2⟩
theorem torn_write {n : Nat} {y : UInt8} (hn : n < 6) (h : PoolT w X dg d g q 0 k 1 [checkR] 1 (Po.new 0) (pTN 0) none) (hk : k ≤ 900000) (hz : ∀ t, 514 ≤ t → ∀ gr, d.regs[0]? = some gr → gr.base[t]? = (Rg.new 538).base[t]?) {A : Option Addr} {c : Nat} (hv : Rd w (.slice A 1 c) (u8s [y])) :
    Calls Try.prog 19 #[.pointer (some ⟨dg, 0, none⟩), .int .i64 0, .int .i64 ((514 + 4 * n + 2 : Nat) : Int), .slice A 1 c] w fun e w' => ∃ v, e = .returned v ∧ TornAt w' X dg g q n y (Po.new 0) ∧ Out X w w' := by
  obtain ⟨l, kv, gr, h1, h2, h3, h4, h5, h6, h7, h8, h9⟩ := h
  have hn2 : ([y] : List UInt8).length = 1 := rfl
  refine (write_lane (w := w) h1.ln (h2.small.more (by omega)) hn2 ((0 : Nat) : Int) ((514 + 4 * n + 2 : Nat) : Int) hv (Below.refl _ _)).mono ?_
  rintro e w' ⟨v, rfl, _, h10, h11⟩
  obtain ⟨_, h12⟩ := h2.write (s := 514 + 4 * n + 2) (by omega) (b := [y]) (by simp)
  have hrun : gr.run [.w (514 + 4 * n + 2) (pad [y])] = (gr.write (514 + 4 * n + 2) (pad [y]), true) := by
    rw [run_one]
    have : gr.down = false := by unfold Rg.down; rw [h8]; rfl
    rw [this]
    rfl
  rw [hrun] at h12
  have ho := h11.less (X := PX X q (Po.new 0)) (fun _ h => .inl h)
  refine ⟨_, rfl, ⟨_, l, kv, _, _, h1.laned h10 ho, h12.is, h12.same.trans h6, rfl, fun j hj => ?_⟩, PAt.outX ho⟩
  have hbase : ∀ t, 514 ≤ t → gr.secs[t]? = (Rg.new 538).base[t]? := by
    intro t ht
    rw [h3.secs]
    exact hz t ht gr h2.at_
  show (gr.write (514 + 4 * n + 2) (pad [y])).secs.getD _ _ = _
  rw [Rg.secs_write, List.getD_eq_getElem?_getD, List.getElem?_set]
  have hl : gr.secs.length = 538 := by rw [h2.fit.secs_length]; exact h6
  by_cases e : j = 2
  · subst e
    rw [if_pos rfl, if_pos rfl, if_pos (by omega)]
    rfl
  · rw [if_neg (by omega), if_neg e, hbase _ (by omega)]
    show ((List.replicate 538 zsec)[514 + 4 * n + j]?).getD zsec = zsec
    rw [List.getElem?_replicate, if_pos (by omega)]
    rfl
theorem torn_first {n y : Nat} (hn : n < 6) (h : PoolT w X dg d g q 0 k 1 [checkR] 1 (Po.new 0) (pTN 0) none) (hk : k ≤ 900000) (hz : ∀ t, 514 ≤ t → ∀ gr, d.regs[0]? = some gr → gr.base[t]? = (Rg.new 538).base[t]?) (hy : ((UInt8.ofNat y).toNat : Int) = (y : Int)) :
    Calls Try.prog 19 #[.pointer (some ⟨dg, 0, none⟩), .int .i64 0, .int .i64 ((514 + 4 * n + 2 : Nat) : Int), .slice (some ⟨w.heap.size, 0, none⟩) 1 1] (w.alloc (.cells #[.int .u8 (y : Int)] 5)) fun e w' => ∃ v, e = .returned v ∧ TornAt w' X dg g q n (UInt8.ofNat y) (Po.new 0) ∧ Out X w w' := by
  have hb := (Below.refl w.heap.size w).alloc (Nat.le_refl _) (.cells #[.int .u8 (y : Int)] 5)
  refine (torn_write (y := UInt8.ofNat y) hn (h.below hb) hk hz (Rd.new_ w #[.int .u8 (y : Int)] _ (0, 0) rfl rfl (Nat.le_refl _) (by unfold u8s; simp only [List.map_cons, List.map_nil, hy]))).mono ?_
  rintro e w' ⟨v, rfl, ht, ho⟩
  exact ⟨v, rfl, ht, (Out.of_below hb).trans ho⟩
theorem new_free : ∀ j, j < 0 → ((Po.new 0).f j).pb ≠ none := fun j hj => absurd hj (by omega)
theorem torn_get {n : Nat} {y : UInt8} (hn : n < 6) (hy : y ≠ 0) (h : TornAt w X dg g q n y (Po.new 0)) :
    Calls Try.prog 12 #[.pointer (some ⟨q, 0, none⟩), .int .i64 (n : Int)] w fun e w' => e = .returned (.tuple #[.pointer none, .int .i64 11]) ∧ Below w.heap.size w w' := by
  obtain ⟨d, l, kv, gr, k, h1, h2, h3, h4, h5⟩ := h
  refine (get_miss (N := fun d' => d' = d) (z := 0) h1 h2 (by omega) (by omega) hn rfl rfl (fun w1 Y hp => (obtain_free hp (by omega) new_free rfl).mono (by rintro e w' ⟨rfl, rfl⟩; exact ⟨rfl, d, kv, rfl, hp, Out.refl _ _⟩))).mono ?_
  rintro e w' (⟨x, hx, _⟩ | ⟨rfl, _, hb⟩)
  · exact (torn_not (by show (0 : Nat) < _; omega) (by omega) hy h5 hx).elim
  · exact ⟨rfl, hb⟩
def pg5 (n : Nat) : Pg := ⟨5, 0, n, fun _ => ⟨#[]⟩⟩
theorem torn_put {n : Nat} {y : UInt8} (hn : n < 6) (h : TornAt w X dg g q n y (Po.new 0)) :
    Calls Try.prog 20 #[.pointer (some ⟨q, 0, none⟩), .agg #[.int .u64 5, .int .i64 0, .int .i64 (n : Int), .string ⟨#[]⟩, .string ⟨#[]⟩, .string ⟨#[]⟩, .string ⟨#[]⟩, .string ⟨#[]⟩]] w fun e w' => ∃ b, e = .returned (.tuple #[.pointer (some ⟨b, 0, none⟩), .int .i64 0]) ∧ TornAt w' X dg g q n y ((Po.new 0).set 0 (fZ.with_ b n (pg5 n))) ∧ Out X w w' := by
  obtain ⟨d, l, kv, gr, k, h1, h2, h3, h4, h5⟩ := h
  refine (put_obt (N := fun d' => d' = d) (z := 0) (p := pg5 n) h1 (by omega) hn rfl rfl rfl (fun w1 Y hp => (obtain_free hp (by omega) new_free rfl).mono (by rintro e w' ⟨rfl, rfl⟩; exact ⟨rfl, d, kv, rfl, hp, Out.refl _ _⟩))).mono ?_
  rintro e w' ⟨b, rfl, _, d', kv', rfl, hp, ho⟩
  exact ⟨b, rfl, ⟨d', l, kv', gr, k, hp, h2, h3, h4, h5⟩, ho⟩
theorem find_put (b n : Nat) : ((Po.new 0).set 0 (fZ.with_ b n (pg5 n))).find n = some 0 := Po.find_at (by omega) (fun j hj => absurd hj (by omega)) (hasB_yes (b := b) rfl rfl)
theorem find_put_no (b n m : Nat) (h : n ≠ m) (v : Fm) (hv : v.num = n) : ((Po.new 0).set 0 v).find m = none := Po.find_none (fun j hj => by
  by_cases e : j = 0
  · subst e; exact hasB_other (by rw [Po.set_same, hv]; exact h)
  · exact hasB_none (by rw [Po.set_other _ _ e]; rfl))
theorem torn_got {n b : Nat} {y : UInt8} (hn : n < 6) (h : TornAt w X dg g q n y ((Po.new 0).set 0 (fZ.with_ b n (pg5 n)))) :
    Calls Try.prog 12 #[.pointer (some ⟨q, 0, none⟩), .int .i64 (n : Int)] w fun e w' => e = .returned (.tuple #[.pointer (some ⟨b, 0, none⟩), .int .i64 0]) ∧ TornAt w' X dg g q n y ((Po.new 0).set 0 (fZ.with_ b n (pg5 n)).asked) ∧ Out X w w' := by
  obtain ⟨d, l, kv, gr, k, h1, h2, h3, h4, h5⟩ := h
  refine (get_found h1 hn (find_put b n) (b := b) (by rw [Po.set_same]; rfl)).mono ?_
  rintro e w' ⟨rfl, hp, hk⟩
  rw [Po.set_same, Po.set_set] at hp
  exact ⟨rfl, ⟨d, l, kv, gr, k, hp, h2, h3, h4, h5⟩, h1.outQ hk⟩
theorem torn_touch {n b m : Nat} {y : UInt8} (hn : n < 6) (hm : 20 ≤ m) (h : TornAt w X dg g q n y ((Po.new 0).set 0 (fZ.with_ b n (pg5 n)).asked)) :
    Calls Try.prog 14 #[.pointer (some ⟨q, 0, none⟩), .int .i64 (m : Int), .int .u64 7] w fun e w' => e = .returned (.tuple #[]) ∧ w = w' := by
  obtain ⟨d, l, kv, gr, k, h1, h2⟩ := h
  exact touch_none (m := 7) h1 (find_put_no b n m (by omega) _ rfl)
theorem torn_clean {n b : Nat} {y : UInt8} (h : TornAt w X dg g q n y ((Po.new 0).set 0 (fZ.with_ b n (pg5 n)).asked)) :
    Calls Try.prog 21 #[.pointer (some ⟨q, 0, none⟩), .int .i64 (n : Int)] w fun e w' => e = .returned (.bool true) ∧ w = w' := by
  obtain ⟨d, l, kv, gr, k, h1, h2⟩ := h
  have hc : ((Po.new 0).set 0 (fZ.with_ b n (pg5 n)).asked).cleanB n = true := by
    unfold Po.cleanB
    have hf : ((Po.new 0).set 0 (fZ.with_ b n (pg5 n)).asked).find n = some 0 := Po.find_at (by omega) (fun j hj => absurd hj (by omega)) (hasB_yes (b := b) rfl rfl)
    rw [hf]
    rfl
  rw [← hc]
  exact clean_any h1 n
theorem torn_mark {n b : Nat} {y : UInt8} (h : TornAt w X dg g q n y ((Po.new 0).set 0 (fZ.with_ b n (pg5 n)).asked)) : w.cell? ⟨b, 0, none⟩ = some (.int .u64 5) := by
  obtain ⟨d, l, kv, gr, k, h1, h2⟩ := h
  exact PgB.markC (h1.pg 0 b (by omega) rfl).1
end
section
variable {w : World} {X : Nat → Prop} {dg : Nat} {d : Ds} {g q k : Nat}
/-- lane.New and pool.New, what stands behind the lane told. -/
theorem new_lane0' (h : Many w X [(dg, d)]) (hd : DIs d 0 (Rg.new 538) k) (hdn : d.size = 538) (hk : k ≤ 400000) :
    Calls Try.prog 10 #[.pointer (some ⟨dg, 0, none⟩), .int .i64 0] w fun e w' => ∃ g d', e = .returned (.tuple #[.pointer (some ⟨g, 0, none⟩), .int .i64 0]) ∧ LaneP w' X dg d' g 0 (k + 700) 1 [checkR] 1 (Rg.new 538).base ∧ (∀ t, 514 ≤ t → ∀ gr, d'.regs[0]? = some gr → gr.base[t]? = (Rg.new 538).base[t]?) ∧ Out X w w' := by
  refine (new_lane0 h hd hdn hk).mono ?_
  rintro e w' ⟨g, d', rfl, _, hl, ho⟩
  refine ⟨g, d', rfl, hl, ?_, ho⟩
  obtain ⟨l, kv, gr, h1, h2, h3, h4, h5, h6, h7, h8⟩ := hl
  intro t ht gr' hg
  rw [h2.at_] at hg
  obtain rfl := Option.some.inj hg
  exact h8 t ht
end
theorem infoPg : (Try.prog.info? 53).map (·.size) = some 8 := by kernel_rfl
theorem run_same_page (b : Nat) (W : World) : (binOp .eql 37 (.pointer (some ⟨b, 0, none⟩)) (.pointer (some ⟨b, 0, none⟩))).run Try.prog W = .ok (.bool true) W := by
  cases h : Try.prog.info? 53 with
  | none => have := infoPg; rw [h] at this; cases this
  | some j => exact run_eql_ptr_same W ⟨b, 0, none⟩ Try.underlying37 h
set_option maxHeartbeats 8000000 in
theorem torn_walk (n : Int) (x : UInt8) (m : Int) (w : World) (_ : (Lit.int .i64 n).wf = true) (_ : (Lit.int .i64 m).wf = true) :
    Calls Try.prog 4 #[.int .i64 n, .int .u8 (x.toNat : Int), .int .i64 m] w fun e w' => e = .returned (.bool true) ∧ Below w.heap.size w w' := by
  obtain ⟨hp1, hp2, hp3, hp4⟩ := sP_ok n
  generalize sP n = p at *
  obtain ⟨z, hz, hand⟩ := and_low m 4 (by omega)
  obtain ⟨y, hy1, hy2, hor⟩ := or_one x.toNat x.toNat_lt
  have hand' : bits .and .i64 m 15 = (z : Int) := hand
  have hy8 : UInt8.ofNat y ≠ 0 := by
    intro e
    have := congrArg UInt8.toNat e
    rw [UInt8.toNat_ofNat'] at this
    have h0 : (0 : UInt8).toNat = 0 := rfl
    rw [h0] at this
    omega
  have hyt : ((UInt8.ofNat y).toNat : Int) = (y : Int) := by rw [UInt8.toNat_ofNat']; omega
  have hp6 : (p : Int) ≤ 5 := by omega
  have hz16 : (z : Int) < 16 := by have : (2 : Nat) ^ 4 = 16 := rfl; omega
  have e20 : (z : Int) + 20 = ((z + 20 : Nat) : Int) := by omega
  have e514 : 514 + 4 * (p : Int) + 2 = ((514 + 4 * p + 2 : Nat) : Int) := by omega
  have hfit := fit_any w
  have heq := run_same_page
  have HP5 := hide (show p < 6 by omega)
  have HY8 := hide hy8
  have HYT := hide hyt
  have E20 := hide e20
  have E514 := hide e514
  clear hand hy1 hy2 hy8 hyt e20 e514
  go_enter Try.func4, Try.ntmps4
  go_wp2_with (first
    | (go_at_call 8; ((with_reducible refine hfit.mono ?_); rintro e w0 ⟨rfl, hb0⟩; have B0 := hide hb0; have hnew := disk_new1 w0; clear hb0 hfit))
    | (go_at_call 9; ((with_reducible refine hnew.mono ?_); rintro e w1 ⟨dg, d, rfl, hm1, hd1, hdn, hb1⟩; have B1 := hide hb1; have hln := new_lane0' hm1 hd1 hdn (by omega); clear hb1 hm1 hd1 hdn hnew))
    | (go_at_call 10; ((with_reducible refine hln.mono ?_); rintro e w2 ⟨g, d2, rfl, hv2, hz2, ho2⟩; have O2 := hide ho2; have Z2 := hide hz2; have hpn := new_pool0 hv2; clear hv2 ho2 hln hz2))
    | (go_at_call 11; ((with_reducible refine hpn.mono ?_); rintro e w3 ⟨q, rfl, hp3, hb3⟩; have O3 := hide (O2.out.trans (Out.of_below hb3)); have hwr := torn_first HP5.out hp3 (by omega) Z2.out HYT.out; rw [← E514.out] at hwr; clear hp3 hb3 hpn))
    | (go_at_call 19; ((with_reducible refine hwr.mono ?_); rintro e w4 ⟨v4, rfl, ht4, ho4⟩; have O4 := hide (O3.out.trans ho4); have T4 := hide ht4; have hg1 := torn_get HP5.out HY8.out ht4; clear ht4 ho4 hwr))
    | (go_at_call 12; ((with_reducible refine hg1.mono ?_); rintro e w5 ⟨rfl, hb5⟩; have O5 := hide (O4.out.trans (Out.of_below hb5)); have T5 := hide (T4.out.below hb5); have hg2 := get_bad w5 q (-1) (.inl (by omega)); have hg3 := get_bad w5 q 6 (.inr (by omega)); have hpt := torn_put HP5.out T5.out; clear hb5 hg1))
    | (go_at_call 12; ((with_reducible refine hg2.mono ?_); rintro e w6 ⟨rfl, rfl⟩; clear hg2))
    | (go_at_call 12; ((with_reducible refine hg3.mono ?_); rintro e w6 ⟨rfl, rfl⟩; clear hg3))
    | (go_at_call 20; ((with_reducible refine hpt.mono ?_); rintro e w7 ⟨b, rfl, ht7, ho7⟩; have O7 := hide (O5.out.trans ho7); have hg4 := torn_got HP5.out ht7; clear ht7 ho7 hpt))
    | (go_at_call 12; ((with_reducible refine hg4.mono ?_); rintro e w8 ⟨rfl, ht8, ho8⟩; have O8 := hide (O7.out.trans ho8); have htc := torn_touch (m := z + 20) HP5.out (by omega) ht8; rw [← E20.out] at htc; have hcl := torn_clean ht8; have hmk := torn_mark ht8; clear ht8 ho8 hg4))
    | (go_at_call 14; ((with_reducible refine htc.mono ?_); rintro e w9 ⟨rfl, rfl⟩; clear htc))
    | (go_at_call 21; ((with_reducible refine hcl.mono ?_); rintro e w9 ⟨rfl, rfl⟩; clear hcl)))
  go_ret
  exact ⟨rfl, B0.out.trans ((B1.out.trans ((O8.out.below B1.out.size (fun k hk => hk)).mono (Nat.le_refl _))).mono B0.out.size)⟩
end Go.Proofs.Ytkdcnddagebjpaa