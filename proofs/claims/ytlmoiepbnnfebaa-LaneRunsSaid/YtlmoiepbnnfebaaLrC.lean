/-
  LaneRuns' walk: its pieces, a region that went down.
-/
import Derived.Test.YtlmoiepbnnfebaaLrB
import Derived.Test.YtlmoiepbnnfebaaDuo
namespace Go.Proofs.Ytlmoiepbnnfebaa
open Go.RowKit
set_option maxRecDepth 20000
set_option linter.unusedSimpArgs false
set_option linter.unusedVariables false

set_option maxHeartbeats 1000000 in
theorem rn_52 {w : World} {dg : Nat} {P : World → Prop} (hc : Calls Try.prog 25 #[.pointer (some ⟨dg, 0, none⟩), .int .i64 0, .int .i64 0] w fun e w' => e = .returned (.tuple #[]) ∧ P w')  {tm : Array Value} (hs : tm.size = 247) (f3 : tm[3]? = some (ptr dg)) {Q : Exit → Act → World → Prop}
    (hK : ∀ (tm' : Array Value) w', Keeps SD0 tm tm' → P w' → Q .normal ⟨tm', []⟩ w') :
    Code.wp Try.prog (subC (Try.f3.body.getD .skip) [1,1,1,1,1,1,1,1,0,1,0,0,1,1,0,0,1,1,1,1,0,0]) Q ⟨tm, []⟩ w := by
  conv => arg 2; whnf
  have HK := hide hK
  clear hK
  have k3 := slot_at f3 (by omega)
  unfold ptr at k3
  clear f3
  go_wp2_with (go_at_call 25; ((with_reducible refine hc.mono ?_); rintro e w1 ⟨rfl, hp⟩; have HP := hide hp; clear hp hc))
  exact HK.out _ _ (by repeat (first | (with_reducible exact Keeps.refl _ _) | ((with_reducible refine Keeps.put ?_ ?_ _); rfl))) HP.out
set_option maxHeartbeats 1000000 in
theorem rn_53 {w : World} {dg bx M : Nat} {P : World → Prop} (hc : Calls Try.prog 22 #[.pointer (some ⟨dg, 0, none⟩), .int .u64 (M : Int)] w fun e w' => e = .returned (.tuple #[]) ∧ P w') (hcell : w.cell? ⟨bx, 10, none⟩ = some (.int .u64 (M : Int))) {tm : Array Value} (hs : tm.size = 247) (f3 : tm[3]? = some (ptr dg)) (f12 : tm[12]? = some (ptr bx)) {Q : Exit → Act → World → Prop}
    (hK : ∀ (tm' : Array Value) w', Keeps SD0 tm tm' → P w' → Q .normal ⟨tm', []⟩ w') :
    Code.wp Try.prog (subC (Try.f3.body.getD .skip) [1,1,1,1,1,1,1,1,0,1,0,0,1,1,0,0,1,1,1,1,0,1,0]) Q ⟨tm, []⟩ w := by
  conv => arg 2; whnf
  have HK := hide hK
  clear hK
  have k3 := slot_at f3 (by omega)
  have k12 := slot_at f12 (by omega)
  unfold ptr at k3 k12
  clear f3 f12
  go_wp2_with (go_at_call 22; ((with_reducible refine hc.mono ?_); rintro e w1 ⟨rfl, hp⟩; have HP := hide hp; clear hp hc))
  exact HK.out _ _ (by repeat (first | (with_reducible exact Keeps.refl _ _) | ((with_reducible refine Keeps.put ?_ ?_ _); rfl))) HP.out
set_option maxHeartbeats 1000000 in
theorem rn_54 {w : World} {dg : Nat} {P : Nat → Value → World → Prop} (hc : Calls Try.prog 23 #[.pointer (some ⟨dg, 0, none⟩), .int .i64 0] w fun e w' => ∃ gy v, e = .returned (.tuple #[.pointer (some ⟨gy, 0, none⟩), v, .int .i64 0]) ∧ P gy v w')  {tm : Array Value} (hs : tm.size = 247) (f3 : tm[3]? = some (ptr dg)) {Q : Exit → Act → World → Prop}
    (hK : ∀ (tm' : Array Value) w' gy v, Keeps SD0 tm tm' → tm'[22]? = some (ptr gy) → tm'[23]? = some (v) → tm'[24]? = some (.int .i64 0) → P gy v w' → Q .normal ⟨tm', []⟩ w') :
    Code.wp Try.prog (subC (Try.f3.body.getD .skip) [1,1,1,1,1,1,1,1,0,1,0,0,1,1,0,0,1,1,1,1,0,1,1,0]) Q ⟨tm, []⟩ w := by
  conv => arg 2; whnf
  have HK := hide hK
  clear hK
  have k3 := slot_at f3 (by omega)
  unfold ptr at k3
  clear f3
  go_wp2_with (go_at_call 23; ((with_reducible refine hc.mono ?_); rintro e w1 ⟨gy, v, rfl, hp⟩; have HP := hide hp; clear hp hc))
  exact HK.out _ _ gy v (by repeat (first | (with_reducible exact Keeps.refl _ _) | ((with_reducible refine Keeps.put ?_ ?_ _); rfl))) (by simp [hs, ptr]) (by simp [hs, ptr]) (by simp [hs, ptr]) HP.out
set_option maxHeartbeats 1000000 in
theorem rn_38 {w : World} {dg bx M : Nat} {P : World → Prop} (hc : Calls Try.prog 22 #[.pointer (some ⟨dg, 0, none⟩), .int .u64 (M : Int)] w fun e w' => e = .returned (.tuple #[]) ∧ P w') (hcell : w.cell? ⟨bx, 10, none⟩ = some (.int .u64 (M : Int))) {tm : Array Value} (hs : tm.size = 247) (f3 : tm[3]? = some (ptr dg)) (f12 : tm[12]? = some (ptr bx)) {Q : Exit → Act → World → Prop}
    (hK : ∀ (tm' : Array Value) w', Keeps SK0 tm tm' → P w' → Q .normal ⟨tm', []⟩ w') :
    Code.wp Try.prog (subC (Try.f3.body.getD .skip) [1,1,1,1,1,1,1,1,0,1,0,0,1,1,0,0,1,0,1,0,1,1,1,1,1,1,1,0,0]) Q ⟨tm, []⟩ w := by
  conv => arg 2; whnf
  have HK := hide hK
  clear hK
  have k3 := slot_at f3 (by omega)
  have k12 := slot_at f12 (by omega)
  unfold ptr at k3 k12
  clear f3 f12
  go_wp2_with (go_at_call 22; ((with_reducible refine hc.mono ?_); rintro e w1 ⟨rfl, hp⟩; have HP := hide hp; clear hp hc))
  exact HK.out _ _ (by repeat (first | (with_reducible exact Keeps.refl _ _) | ((with_reducible refine Keeps.put ?_ ?_ _); rfl))) HP.out
set_option maxHeartbeats 1000000 in
theorem rn_39 {w : World} {dg : Nat} {P : Nat → Value → World → Prop} (hc : Calls Try.prog 23 #[.pointer (some ⟨dg, 0, none⟩), .int .i64 0] w fun e w' => ∃ gy v, e = .returned (.tuple #[.pointer (some ⟨gy, 0, none⟩), v, .int .i64 0]) ∧ P gy v w')  {tm : Array Value} (hs : tm.size = 247) (f3 : tm[3]? = some (ptr dg)) {Q : Exit → Act → World → Prop}
    (hK : ∀ (tm' : Array Value) w' gy v, Keeps SK0 tm tm' → tm'[18]? = some (ptr gy) → tm'[19]? = some (v) → tm'[20]? = some (.int .i64 0) → P gy v w' → Q .normal ⟨tm', []⟩ w') :
    Code.wp Try.prog (subC (Try.f3.body.getD .skip) [1,1,1,1,1,1,1,1,0,1,0,0,1,1,0,0,1,0,1,0,1,1,1,1,1,1,1,0,1,0]) Q ⟨tm, []⟩ w := by
  conv => arg 2; whnf
  have HK := hide hK
  clear hK
  have k3 := slot_at f3 (by omega)
  unfold ptr at k3
  clear f3
  go_wp2_with (go_at_call 23; ((with_reducible refine hc.mono ?_); rintro e w1 ⟨gy, v, rfl, hp⟩; have HP := hide hp; clear hp hc))
  exact HK.out _ _ gy v (by repeat (first | (with_reducible exact Keeps.refl _ _) | ((with_reducible refine Keeps.put ?_ ?_ _); rfl))) (by simp [hs, ptr]) (by simp [hs, ptr]) (by simp [hs, ptr]) HP.out
set_option maxHeartbeats 4000000 in
theorem rn_dn {wi w : World} {X : Nat → Prop} {dg gx bx q gen s : Nat} {allv ov : Value} {all : List Rc} {dn an : Bool} {other : Option (List Rc)} {dk dnn d2 d3 d4 d5 d6 d7 d8 : Int} {dA : Option Addr} {dl dc M : Nat} (h : Af wi w X dg gx bx q gen allv all s #[.int .i64 dk, .int .i64 dnn, .int .i64 d2, .int .i64 d3, .int .i64 d4, .int .i64 d5, .int .u8 d6, .int .u8 d7, .int .u8 d8, .slice dA dl dc, .int .u64 (M : Int)] true an ov other) (hq : q ≤ 130) {tm : Array Value} (hs : tm.size = 247) (f3 : tm[3]? = some (ptr dg)) (f4 : tm[4]? = some (ptr gx)) (f6 : tm[6]? = some (allv)) (f7 : tm[7]? = some (.int .i64 (s : Int))) (f8 : tm[8]? = some (ov)) (f9 : tm[9]? = some (.bool true)) (f10 : tm[10]? = some (.bool an)) (f12 : tm[12]? = some (ptr bx)) {Q : Exit → Act → World → Prop}
    (hK : ∀ tm' w' X' gx' gen' allv' all' s', Keeps SDN tm tm' → tm'[4]? = some (ptr gx') → tm'[6]? = some allv' → tm'[7]? = some (.int .i64 ((s' : Nat) : Int)) → tm'[9]? = some (.bool false) → tm'[10]? = some (.bool false) → Rs wi w' X' dg gx' bx (q + 1) gen' allv' all' s' #[.int .i64 dk, .int .i64 dnn, .int .i64 d2, .int .i64 d3, .int .i64 d4, .int .i64 d5, .int .u8 d6, .int .u8 d7, .int .u8 d8, .slice dA dl dc, .int .u64 (M : Int)] → Q .normal ⟨tm', []⟩ w') :
    Code.wp Try.prog (subC (Try.f3.body.getD .skip) [1,1,1,1,1,1,1,1,0,1,0,0,1,1,0,0,1,1,1]) Q ⟨tm, []⟩ w := by
  conv => arg 2; whnf
  have k9 := slot_at f9 (by omega)
  obtain ⟨Aa, ca, rfl, hca⟩ := h.recs.form
  have harm := bk_arm (h.brok rfl)
  have H := hide h
  have HK := hide hK
  clear h hK
  go_upto_if 189 with fail
  refine wp_cond_true (by simp [Act.eval, hs, k9]) ?_
  have hkp0 : Keeps SD0 tm (tm.setIfInBounds 189 (.bool true)) := Keeps.put rfl (Keeps.refl _ _) _
  obtain ⟨tm0, htm0⟩ : ∃ tm0, tm.setIfInBounds 189 (.bool true) = tm0 := ⟨_, rfl⟩
  rw [htm0] at hkp0 ⊢
  clear htm0
  refine wp_seq ?_
  refine rn_52 (P := fun w' => Brok w' X dg gx 0 538 (3000 * q) gen all s other ∧ Out X w w') harm (hkp0.1.trans hs) (hkp0.get rfl f3) ?_
  rintro tm1 w1 hkp1 ⟨hk1, ho1⟩
  have hkp1 := hkp0.trans hkp1
  have c10 := (ho1.blk H.out.box H.out.has).cell 10 _ rfl
  have hcr := la_crash_brok hk1 (by omega) M
  unfold ptr at hcr
  refine wp_seq ?_
  refine rn_53 (P := fun w' => Crd w' X dg 0 538 (3000 * q) gen all s other ∧ Out X w1 w') hcr c10 (hkp1.1.trans hs) (hkp1.get rfl f3) (hkp1.get rfl f12) ?_
  rintro tm2 w2 hkp2 ⟨hk2, ho2⟩
  have hkp2 := hkp1.trans hkp2
  have O2 := ho1.trans ho2
  refine wp_seq ?_
  refine rn_54 (P := fun gy gv w3 => ∃ (E : Nat → Prop) (got : List Rc) (gen' : Nat), ((gen' = gen ∧ ∃ j, s ≤ j ∧ j ≤ all.length ∧ got = all.take j) ∨ (gen' = gen + 1 ∧ other = some got)) ∧ Live w3 (fun k => X k ∨ E k) dg gy 0 538 (3000 * q + 700) gen' true got got.length ∧ EntsAt w3 E gv gen' got ∧ (∀ k, E k → w2.heap.size ≤ k) ∧ Out X w2 w3) ((la_open0 hk2 (by omega)).mono (fun e w' hh => by obtain ⟨g, v, E, got, gen', h1, h2⟩ := hh; exact ⟨g, v, h1, E, got, gen', h2⟩)) (hkp2.1.trans hs) (hkp2.get rfl f3) ?_
  rintro tm3 w3 gy gv hkp3 g22 g23 g24 ⟨E, got, gen', hw, hv3, he3, hE3, ho3⟩
  have hkp3 := hkp2.trans hkp3
  have O3 := hide (O2.trans ho3)
  have V3 := hide hv3
  have E3 := hide he3
  have HW := hide hw
  obtain ⟨AE, cE, evE, _⟩ := he3.1.form
  obtain ⟨n, hn⟩ : ∃ n, got.length = n := ⟨_, rfl⟩
  rw [hn] at evE
  subst evE
  have HNN := hide hn
  clear hw hv3 he3 ho3 hE3 hn hk1 hk2 ho1 ho2 hcr harm hkp0 hkp1 hkp2 c10 k9 O2
  have hs3 := hkp3.1.trans hs
  have hR3 := H.out.recs.out O3.out
  have hgl := V3.out.len
  have hfewA := H.out.few
  have hgensA := H.out.gens
  have hgot : gen' ≤ q + 2 ∧ n ≤ q + 8 + 1 := by
    rcases HW.out with ⟨e1, j, h1, h2, h3⟩ | ⟨e1, h1⟩
    · rw [← HNN.out, h3, List.length_take]
      omega
    · cases han : an
      · rw [H.out.non han] at h1; cases h1
      · obtain ⟨o, ho, ho8, _⟩ := H.out.oth han
        rw [ho] at h1
        have := Option.some.inj h1
        rw [← HNN.out, ← this]
        omega
  have hst := starts_any E3.out hR3 V3.out.ok (by rw [HNN.out]; omega)
  have hcut : ∀ W : World, Below w3.heap.size w3 W → RecsAt W (fun k => X k ∨ E k) (.slice Aa n n) (all.take n) → startsB got all = true → Rs wi W (fun k => X k ∨ E k) dg gy bx (q + 1) gen' (.slice Aa n n) got n #[.int .i64 dk, .int .i64 dnn, .int .i64 d2, .int .i64 d3, .int .i64 d4, .int .i64 d5, .int .u8 d6, .int .u8 d7, .int .u8 d8, .slice dA dl dc, .int .u64 (M : Int)] := by
    intro W hb hr hsb
    have hge := (startsB_iff.1 hsb).2
    rw [HNN.out] at hge
    rw [← hge] at hr
    have hl := V3.out.below hb
    rw [HNN.out] at hl
    exact H.out.step (O3.out.trans (Out.of_below hb)) (fun k hk => .inl hk) hl.any (by omega) hgot.1 (by rw [HNN.out]; omega) hr
  by_cases hwas : (startsB got all && decide ((s : Int) ≤ (n : Int))) = true
  · obtain ⟨hw1, hw2⟩ : startsB got all = true ∧ s ≤ n := by
      simp at hwas
      exact hwas
    have hna := (startsB_iff.1 hw1).1
    rw [HNN.out] at hna
    rw [hw1] at hst
    have hln : all.length ≤ q + 8 := H.out.few
    refine rn_dw hst hw2 (Nat.le_trans hna hca) (by omega) hs3 g22 g23 (hkp3.get rfl f6) (hkp3.get rfl f7) g24 ?_
    intro tm' w' hkp g4 g6 g7 g9 g10 hb
    refine HK.out tm' w' _ gy gen' _ got n ((hkp3.more sd0_sdn).trans hkp) g4 g6 g7 g9 g10 (hcut w' hb ?_ hw1)
    exact ((hR3.below hb).low hna).sub (fun k _ hk => .inl hk)
  · have hwf : (startsB got all && decide ((s : Int) ≤ (n : Int))) = false := by simpa using hwas
    have hoth : an = true ∧ other = some got := by
      rcases HW.out with ⟨e1, j, h1, h2, h3⟩ | ⟨e1, h1⟩
      · exfalso
        have hl : got.length = j := by rw [h3, List.length_take]; omega
        rw [HNN.out] at hl
        rw [h3, starts_take all j h2, hl] at hwf
        simp at hwf
        omega
      · cases han : an
        · rw [H.out.non han] at h1; cases h1
        · exact ⟨rfl, h1⟩
    obtain ⟨rfl, rfl⟩ := hoth
    obtain ⟨o, ho, ho8, hro⟩ := H.out.oth rfl
    obtain rfl := Option.some.inj ho
    obtain ⟨Ao, co, rfl, hco⟩ := hro.form
    have hro3 := hro.out O3.out
    rw [HNN.out] at hro3 f8
    have hso : ∀ w', Below w3.heap.size w3 w' → Calls Try.prog 24 #[.slice AE n cE, .slice Ao n co] w' fun e w'' => e = .returned (.bool true) ∧ Below w'.heap.size w' w'' := by
      intro w' hb
      have := starts_any (E3.out.below hb) (hro3.below hb) V3.out.ok (by rw [HNN.out]; omega)
      rw [starts_refl] at this
      exact this
    refine rn_dn_ hst hwf hso hro3 (fun k hk => Nat.lt_of_lt_of_le (H.out.xlt k hk) O3.out.size) (by omega) hs3 g22 g23 (hkp3.get rfl f6) (hkp3.get rfl f7) g24 (hkp3.get rfl f8) (hkp3.get rfl f10) ?_
    intro tm' w' A' hkp g4 g6 g7 g9 g10 hr hb
    have hl := V3.out.more hb (Y := Ext (fun k => X k ∨ E k) w3.heap.size w'.heap.size) (fun _ hk => hk)
    rw [HNN.out] at hl
    exact HK.out tm' w' _ gy gen' _ got n ((hkp3.more sd0_sdn).trans hkp) g4 g6 g7 g9 g10 (H.out.step (O3.out.trans (Out.of_below hb)) (fun k hk => .inl (.inl hk)) hl.any (by omega) hgot.1 (by rw [HNN.out]; omega) (hr.sub (fun k hlt hk => by
      rcases hk with hk | hk
      · exact .inl (.inl hk)
      · exact .inr ⟨hk, hlt⟩)))
end Go.Proofs.Ytlmoiepbnnfebaa
