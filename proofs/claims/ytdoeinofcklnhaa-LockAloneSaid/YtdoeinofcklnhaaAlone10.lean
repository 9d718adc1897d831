/-
  LockAlone's walk.
-/
import Derived.Test.YtdoeinofcklnhaaKeyC
namespace Go.Proofs.Ytdoeinofcklnhaa
open Go.RowKit
set_option maxRecDepth 20000
set_option linter.unusedSimpArgs false
set_option linter.unusedVariables false

/-- All that is held is held by one alone. -/
def Only (who : Int) (S : Th → Option Ho) : Prop := ∀ x ho, S x = some ho → ∀ i, ho.o i = true ↔ i = who
section
variable {S : Th → Option Ho} {who : Int} {x : Th} {m : Int} {ws : List (Th × Int)} {c : Nat}
theorem only_none : Only who (fun _ => none) := fun x ho h => by cases h
theorem Only.can (h : Only who S) : canB S who x m = true := by
  cases hx : S x with
  | none => exact canB_none hx
  | some ho => exact canB_own hx (fun i hi => (h x ho hx i).1 hi)
theorem Only.canAll (h : Only who S) : canAll S who ws = true := by
  unfold Go.Proofs.Ytdoeinofcklnhaa.canAll
  rw [List.all_eq_true]
  exact fun x _ => h.can
theorem Only.take (h : Only who S) : Only who (takeS S who x m) := by
  intro y ho hy i
  by_cases e : y = x
  · subst e
    rw [takeS_at] at hy
    obtain rfl := Option.some.inj hy
    cases hx : S y with
    | none => simp
    | some ho =>
      have := h y ho hx i
      simp only [Option.getD_some, Bool.or_eq_true, decide_eq_true_eq, this, or_self]
  · rw [takeS_ne e] at hy
    exact h y ho hy i
theorem Only.all (h : Only who S) : Only who (takeAll S who ws) := by
  unfold takeAll
  induction ws generalizing S with
  | nil => exact h
  | cons a l ih => exact ih h.take
theorem Only.other (h : Only who S) {q : Int} (hq : q ≠ who) : Only who (dropS S q) ∧ ∀ x, (dropS S q x).isSome = (S x).isSome := by
  have key : ∀ x ho, S x = some ho → dropS S q x = some ⟨ho.m, fun i => !decide (i = q) && ho.o i⟩ := by
    intro x ho hx
    unfold dropS lessO
    rw [hx]
    exact if_pos ⟨who, fun e => hq e.symm, (h x ho hx who).2 rfl⟩
  have keyn : ∀ x, S x = none → dropS S q x = none := by
    intro x hx
    unfold dropS
    rw [hx]
    rfl
  refine ⟨fun x ho hx i => ?_, fun x => ?_⟩
  · cases e : S x with
    | none => rw [keyn x e] at hx; cases hx
    | some ho2 =>
      rw [key x ho2 e] at hx
      obtain rfl := Option.some.inj hx
      have := h x ho2 e i
      simp only [Bool.and_eq_true, Bool.not_eq_true', decide_eq_false_iff_not, this]
      exact ⟨fun h => h.2, fun h => ⟨by rw [h]; exact fun e => hq e.symm, h⟩⟩
  · cases e : S x with
    | none => rw [keyn x e]
    | some ho2 => rw [key x ho2 e]; rfl
theorem Only.gone (h : Only who S) : dropS S who = fun _ => none := by
  funext x
  unfold dropS
  cases e : S x with
  | none => rfl
  | some ho =>
    unfold lessO
    exact if_neg (by rintro ⟨i, h1, h2⟩; exact h1 ((h x ho e i).1 h2))
theorem take_some {y : Th} (h : (S y).isSome = true) : (takeAll S who ws y).isSome = true := by
  unfold takeAll
  induction ws generalizing S with
  | nil => exact h
  | cons a l ih => exact ih (by rw [takeS_isSome, h, Bool.or_true])
/-- Somebody has locked something. -/
theorem key_some {t : Int} {k : ByteArray} {ch : Bool} : (takeAll S who (keyC ch t k) (keyT t k)).isSome = true := by rw [some_C]; simp
end
theorem more_lock {A0 W : World} {F0 : Nat → Prop} {g n m : Nat} {S : Th → Option Ho} (h : Ow A0 F0 W [Res.lock g n S]) (hm : n ≤ m := by omega) : Ow A0 F0 W [Res.lock g m S] := by
  obtain ⟨O, hl, h6⟩ := h.split (i := 0) rfl
  exact h6 W (Res.lock g m S) (Kept.refl _ _) ((show Lk W g n S O from hl).more hm |>.mono (fun k hk _ => .inl hk))
set_option maxHeartbeats 8000000 in
theorem alone_walk (v : Value) (cs : List LCall) (w : World) (hv : LCallRow w w.heap.size v cs) : Calls Try.prog 3 #[v] w fun e w' => e = .returned (.bool true) ∧ Below w.heap.size w w' := by
  obtain ⟨⟨A0, cap, rfl, hlc, _⟩, _⟩ := id hv
  have HV := hide hv
  clear hv hlc
  by_cases hlen : cs.length ≤ 100
  · have hl1 : ¬ (100 : Int) < (cs.length : Int) := by omega
    have HFEW := hide hlen
    clear hlen
    go_enter Try.func3, Try.ntmps3
    go_wp2_with (first
      | (go_at_call 8; (with_reducible refine (fit_any _).mono ?_); rintro e w0 ⟨rfl, hb⟩; have S0 := hide ((Ow.start w).below hb); clear hb)
      | (go_at_call 9; (with_reducible refine (ow_newlk S0.out).mono ?_); rintro e w1 ⟨g, rfl, hs⟩; have S1 := hide hs; clear hs))
    go_loopw [15] (fun i wr => ∃ (j n : Nat) (S : Th → Option Ho) (c : Nat), j ≤ cs.length ∧ i = .int .i64 j ∧ Hid (Ow w (fun _ => False) wr [Res.lock g n S]) ∧ Hid (n ≤ 4 * j) ∧ Hid (Only 7 S) ∧ Hid (Cnt S c) ∧ Hid (c = 0 ↔ j = 0)) (fun i _ => cs.length - (intOf i).toNat)
    case atStart => exact ⟨0, 0, _, 0, by omega, rfl, S1, hide (by omega), hide only_none, hide Cnt.empty, hide (by omega)⟩
    case round =>
      clear S0 S1
      obtain ⟨j, n, S, c, hj, rfl, hs, hn, HON, HC, HZ⟩ := hrel
      by_cases hlt : j < cs.length
      · obtain ⟨cl, hc⟩ : ∃ cl, cs[j]? = some cl := ⟨_, List.getElem?_eq_getElem hlt⟩
        obtain ⟨_, b1, o1, rfl, ⟨i0, i1, i2, i3⟩, hok⟩ := lcall_cells HV.out hs.out.bel hc
        obtain ⟨ck, cw, t, k⟩ := cl
        dsimp only at i0 i1 i2 i3
        have q0 : (0 : Int) ≤ (j : Int) := by omega
        have q1 : (j : Int) < (cs.length : Int) := by omega
        have HLT := hide hlt
        have HT : Hid ((Lit.int .i64 t).wf = true) := hide hok.t
        clear hok hc hlt
        have SB := hide (hs.out.box 27 #[.int .i64 ck, .int .i64 cw, .int .i64 t, .string k])
        have hnb : n ≤ 900000 - 6 := by have := hn.out; have := HFEW.out; omega
        by_cases hl : k.size ≤ 100
        · have hl2 : ¬ (100 : Int) < (k.size : Int) := by omega
          have HK : Hid (k.size ≤ maxLen) := hide (by unfold maxLen; omega)
          clear hl
          generalize hch : (bits .and .i64 ck 1 == 1) = ch at *
          have hs := SB.out
          cases h2 : (bits .and .i64 ck 2 == 2)
          · have HK0 := hide (ow_key (S := S) (S' := (takeAll S 7 (keyC ch t k))) (n' := (n + 2)) hs (i := 0) rfl 7 t k ch (b := true) HON.out.canAll rfl (by omega) (by omega) (wf_small (by decide) (by decide)) ⟨HT.out, HK.out⟩)
            clear hs
            go_wp2_with (first
              | (go_at_call 10; (with_reducible refine HK0.out.mono ?_); rintro e w2 ⟨rfl, hs⟩; clear HK0; have p0 := (hs.blk (i := 1) rfl).cell 0 _ rfl; have p2 := (hs.blk (i := 1) rfl).cell 2 _ rfl; have p3 := (hs.blk (i := 1) rfl).cell 3 _ rfl; have HE := hide hs; clear hs))
            go_roundw
            case rel =>
              obtain ⟨c2, hc2⟩ := HE.out.cnt (i := 0) rfl
              exact ⟨j + 1, n + 4, _, c2, by have := HLT.out; omega, by go_num, hide (more_lock (HE.out.take 1)), hide (by have := hn.out; omega), hide HON.out.all, hide hc2, hide (by have := hc2.pos (x := keyT t k) key_some; omega)⟩
            case measure => simp [intOf]; have := HLT.out; omega
          · have HK0 := hide (ow_key (S := S) (S' := (takeAll S 7 (keyC ch t k))) (n' := (n + 2)) hs (i := 0) rfl 7 t k ch (b := true) HON.out.canAll rfl (by omega) (by omega) (wf_small (by decide) (by decide)) ⟨HT.out, HK.out⟩)
            clear hs
            go_wp2_with (first
              | (go_at_call 10; (with_reducible refine HK0.out.mono ?_); rintro e w2 ⟨rfl, hs⟩; clear HK0; have p0 := (hs.blk (i := 1) rfl).cell 0 _ rfl; have p2 := (hs.blk (i := 1) rfl).cell 2 _ rfl; have p3 := (hs.blk (i := 1) rfl).cell 3 _ rfl; have HK1 := hide (ow_table (S := (takeAll S 7 (keyC ch t k))) (S' := (takeAll (takeAll S 7 (keyC ch t k)) 7 (tabR t))) (n' := (n + 4)) hs (i := 0) rfl 7 t (b := true) HON.out.all.canAll rfl (by omega) (by omega) (wf_small (by decide) (by decide)) HT.out); clear hs)
              | (go_at_call 11; (with_reducible refine HK1.out.mono ?_); rintro e w3 ⟨rfl, hs⟩; clear HK1; have p0 := (hs.blk (i := 1) rfl).cell 0 _ rfl; have p2 := (hs.blk (i := 1) rfl).cell 2 _ rfl; have p3 := (hs.blk (i := 1) rfl).cell 3 _ rfl; have HE := hide hs; clear hs))
            go_roundw
            case rel =>
              obtain ⟨c2, hc2⟩ := HE.out.cnt (i := 0) rfl
              exact ⟨j + 1, n + 4, _, c2, by have := HLT.out; omega, by go_num, hide (more_lock (HE.out.take 1)), hide (by have := hn.out; omega), hide HON.out.all.all, hide hc2, hide (by have := hc2.pos (x := keyT t k) (take_some key_some); omega)⟩
            case measure => simp [intOf]; have := HLT.out; omega
        · have hl2 : (100 : Int) < (k.size : Int) := by omega
          clear hl
          go_wp2
          go_ret
          exact ⟨rfl, SB.out.bel⟩
      · obtain rfl : j = cs.length := by omega
        clear hlt hj
        have hnb : n ≤ 900000 - 6 := by have := hn.out; have := HFEW.out; omega
        have HON8 := hide (HON.out.other (q := 8) (by decide)).1
        have HC8 : Hid (Cnt (dropS S 8) c) := hide (HC.out.of_same (HON.out.other (q := 8) (by decide)).2)
        obtain ⟨z, hz1, hz2⟩ : ∃ z : Bool, ((c : Int) == 0) = z ∧ ((cs.length : Int) == 0) = z := by
          have h := HZ.out
          by_cases e : c = 0
          · exact ⟨true, by simp [e], by simp [h.1 e]⟩
          · exact ⟨false, by simp [e], by simp [show ¬ cs.length = 0 from fun e2 => e (h.2 e2)]⟩
        have hs2 := hs.out
        clear hs
        have hs := hs2
        clear hs2
        have hzz : (z != z) = false := by cases z <;> rfl
        have HK0 := hide (ow_drop (S := S) (S' := (dropS S 8)) hs (i := 0) rfl 8 rfl (wf_small (by decide) (by decide)))
        clear hs
        cases z
        all_goals
          go_wp2_with (first
            | (go_at_call 12; (with_reducible refine (drop_nil 1 _).mono ?_); rintro e w9 ⟨rfl, rfl⟩)
            | (go_at_call 10; (with_reducible refine (read_again_nil _ _ _ _).mono ?_); rintro e w10 ⟨rfl, hb⟩; have HE2 := hide (HE.out.below hb); clear hb)
            | (go_at_call 11; (with_reducible refine (table_nil _ _ _).mono ?_); rintro e w11 ⟨rfl, hb⟩; have HE3 := hide (HE2.out.below hb); clear hb)
            | (go_at_call 13; (with_reducible refine (len_nil _).mono ?_); rintro e w12 ⟨rfl, rfl⟩)
            | (go_at_call 12; (with_reducible refine HK0.out.mono ?_); rintro e w2 ⟨rfl, hs⟩; clear HK0; have HS1 := hide hs; have HK1 := hide (ow_lklen (S := (dropS S 8)) hs (i := 0) rfl HC8.out); clear hs)
            | (go_at_call 13; (with_reducible refine HK1.out.mono ?_); rintro e w3 ⟨rfl, rfl⟩; clear HK1; have hs := HS1.out; clear HS1; have HK2 := hide (ow_drop (S := (dropS S 8)) (S' := (fun _ => none)) hs (i := 0) rfl 7 HON8.out.gone (wf_small (by decide) (by decide))); clear hs)
            | (go_at_call 12; (with_reducible refine HK2.out.mono ?_); rintro e w4 ⟨rfl, hs⟩; clear HK2; have HS3 := hide hs; have HK3 := hide (ow_lklen (S := (fun _ => none)) hs (i := 0) rfl Cnt.empty); clear hs)
            | (go_at_call 13; (with_reducible refine HK3.out.mono ?_); rintro e w5 ⟨rfl, rfl⟩; clear HK3; have hs := HS3.out; clear HS3; have HE := hide hs; clear hs))
          go_ret
          exact ⟨rfl, HE3.out.bel⟩
  · have hl1 : (100 : Int) < (cs.length : Int) := by omega
    clear hlen
    go_enter Try.func3, Try.ntmps3
    go_wp2_with (go_at_call 8; (with_reducible refine (fit_any _).mono ?_); rintro e w0 ⟨rfl, hb⟩; have S0 := hide ((Ow.start w).below hb); clear hb)
    go_ret
    exact ⟨rfl, S0.out.bel⟩
end Go.Proofs.Ytdoeinofcklnhaa
