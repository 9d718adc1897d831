/-
  Locks.Drop: somebody holds nothing.
-/
import Derived.Test.YtdoeinofcklnhaaKeyW
namespace Go.Proofs.Ytdoeinofcklnhaa
open Go.RowKit
set_option maxRecDepth 20000
set_option linter.unusedSimpArgs false
set_option linter.unusedVariables false

open Classical in
/-- What is left of a hold without one owner. -/
noncomputable def lessO (who : Int) (ho : Ho) : Option Ho := if ∃ i, i ≠ who ∧ ho.o i = true then some ⟨ho.m, fun i => !decide (i = who) && ho.o i⟩ else none
/-- Somebody holds nothing. -/
noncomputable def dropS (S : Th → Option Ho) (who : Int) : Th → Option Ho := fun x => (S x).bind (lessO who)
/-- Under way: what is left is as it was. -/
noncomputable def midS (S : Th → Option Ho) (who : Int) (left : Th → Bool) : Th → Option Ho := fun x => if left x then S x else dropS S who x
theorem midS_next {S : Th → Option Ho} {who : Int} {left : Th → Bool} {x : Th} : midS S who (fun z => left z && !decide (z = x)) = fun y => if y = x then dropS S who x else midS S who left y := by
  funext y
  unfold midS
  by_cases e : y = x
  · subst e
    simp
  · simp [e]
section
variable {w w' w2 w3 : World} {g mb n : Nat} {f : Th → Option Hd} {S : Th → Option Ho}
/-- One hold's owners are others. -/
theorem LkI.owner (h : LkI w g mb n f S) {x : Th} {hd : Hd} {ho : Ho} {o : Int → Bool} {c : Nat} (hx : f x = some hd) (hS : S x = some ho) (hm : OwnM w' hd.g n o c) (ht : w.mapTurned w' hd.g) : LkI w' g mb n f (fun y => if y = x then some ⟨ho.m, o⟩ else S y) := by
  have hk := turned_kept ht
  obtain ⟨ho2, h1, h2, _, h3, h4⟩ := h.some_ x hd hx
  rw [hS] at h1
  obtain rfl := Option.some.inj h1
  refine ⟨hk.blk h.blk (fun e => h3 e.symm), ?_, h.ne, fun y k hy => ?_, fun y hy => ?_, h.apart⟩
  · obtain ⟨c, hc⟩ := h.map
    exact ⟨c, hc.same (hk.block mb hc.lt (fun e => h4 e.symm))⟩
  · by_cases e : y = x
    · subst e
      rw [hx] at hy
      obtain rfl := Option.some.inj hy
      rw [if_pos rfl]
      exact ⟨_, rfl, h2, ⟨c, hm⟩, h3, h4⟩
    · rw [if_neg e]
      obtain ⟨ho3, k1, k2, ⟨c, k3⟩, k4⟩ := h.some_ y k hy
      exact ⟨ho3, k1, k2, ⟨c, k3.same (hk.block k.g k3.lt (fun e2 => e (h.apart y x k hd hy hx e2)))⟩, k4⟩
  · have e : y ≠ x := fun e => by subst e; rw [hx] at hy; cases hy
    rw [if_neg e]
    exact h.none_ y hy
/-- One hold is gone. -/
theorem LkI.gone (h : LkI w g mb n f S) {x : Th} {c : Nat} (hm : MapG thK Hd.v w' mb n (fun t => if t = x then none else f t) c) (hk : Kept (fun k => k = mb) w w') : LkI w' g mb n (fun t => if t = x then none else f t) (fun y => if y = x then none else S y) := by
  refine ⟨hk.blk h.blk h.ne, ⟨c, hm⟩, h.ne, fun y k hy => ?_, fun y hy => ?_, fun y z k l hy hz e => ?_⟩
  · have hy := show (if y = x then none else f y) = some k from hy
    by_cases e : y = x
    · rw [if_pos e] at hy
      cases hy
    · rw [if_neg e] at hy
      rw [if_neg e]
      obtain ⟨ho3, k1, k2, ⟨c, k3⟩, k4, k5⟩ := h.some_ y k hy
      exact ⟨ho3, k1, k2, ⟨c, k3.same (hk.block k.g k3.lt k5)⟩, k4, k5⟩
  · have hy := show (if y = x then none else f y) = none from hy
    by_cases e : y = x
    · rw [if_pos e]
    · rw [if_neg e] at hy
      rw [if_neg e]
      exact h.none_ y hy
  · have hy := show (if y = x then none else f y) = some k from hy
    have hz := show (if z = x then none else f z) = some l from hz
    have e1 : y ≠ x := fun e => by rw [if_pos e] at hy; cases hy
    have e2 : z ≠ x := fun e => by rw [if_pos e] at hz; cases hz
    rw [if_neg e1] at hy
    rw [if_neg e2] at hz
    exact h.apart y z k l hy hz e
end
/-- Ahead of a round. -/
structure DropR (w : World) (g mb n r : Nat) (f : Th → Option Hd) (S : Th → Option Ho) (who : Int) (wr : World) (f' : Th → Option Hd) (left : Th → Bool) (cnt c : Nat) : Prop where
  rg : RangeG thK Hd.v wr mb r n f' c left cnt
  lk : LkI wr g mb n f' (midS S who left)
  kept : Kept (lkB g mb f) w wr
  sub : ∀ k, lkB g mb f' k → lkB g mb f k
  new : w.heap.size ≤ r
  base : LkI w g mb n f S
section
variable {w wr w1 w2 w3 w4 : World} {g mb n r cnt c cnt' c' c2 : Nat} {f f' : Th → Option Hd} {S : Th → Option Ho} {who : Int} {left : Th → Bool} {x : Th} {hd : Hd} {ho : Ho}
theorem DropR.far (h : DropR w g mb n r f S who wr f' left cnt c) {k : Nat} (hk : lkB g mb f' k) : k ≠ r := by
  have := h.base.lt (h.sub k hk)
  have := h.new
  omega
/-- Between the step and the inner delete. -/
theorem DropR.mid (h : DropR w g mb n r f S who wr f' left cnt c) (h1 : Kept (fun k => k = r) wr w1) (hb : Below w1.heap.size w1 w2) : LkI w2 g mb n f' (midS S who left) ∧ Kept (lkB g mb f) w w2 := by
  have hk : Kept (fun k => k = r) wr w2 := h1.trans (Kept.of_below (S := fun _ => False) hb) (fun k e => e.elim)
  exact ⟨h.lk.keep hk (fun k hk e => h.far hk e), h.kept.trans hk (fun k e => .inr (by rw [e]; exact h.new))⟩
/-- Behind the round, the hold kept. -/
theorem DropR.stay (h : DropR w g mb n r f S who wr f' left cnt c) (h1 : Kept (fun k => k = r) wr w1) (hb : Below w1.heap.size w1 w2) (hx : f' x = some hd) (hl : left x = true) (hS : S x = some ho)
    (hrg : RangeG thK Hd.v w1 mb r n f' c' (fun z => left z && !decide (z = x)) cnt') (hm : OwnM w3 hd.g n (fun i => !decide (i = who) && ho.o i) c2) (ht : w2.mapTurned w3 hd.g) (hc : c2 ≠ 0) : DropR w g mb n r f S who w3 f' (fun z => left z && !decide (z = x)) cnt' c' := by
  obtain ⟨m1, m2⟩ := h.mid h1 hb
  have hk := turned_kept ht
  have hg : lkB g mb f' hd.g := .inr (.inr ⟨x, hd, hx, rfl⟩)
  have hSm : midS S who left x = some ho := by unfold midS; rw [hl]; exact hS
  have ho1 := m1.owner hx hSm hm ht
  refine ⟨(hrg.below hb).same (hk.block mb ?_ ?_) (hk.block r ?_ (fun e => h.far hg e.symm)), ?_, m2.trans hk (fun i hi => .inl (h.sub i (by rw [hi]; exact hg))), h.sub, h.new, h.base⟩
  · obtain ⟨_, hc⟩ := m1.map
    exact hc.lt
  · obtain ⟨_, _, _, _, _, h5⟩ := m1.some_ x hd hx
    exact fun e => h5 e.symm
  · exact (hrg.below hb).lt
  · rw [midS_next]
    have hd' : dropS S who x = some ⟨ho.m, fun i => !decide (i = who) && ho.o i⟩ := by
      unfold dropS lessO
      rw [hS]
      refine if_pos ?_
      refine Classical.byContradiction (fun hn => hc (hm.fin.zero.2 (fun i => ?_)))
      unfold own1
      rw [if_neg]
      intro e
      rw [Bool.and_eq_true] at e
      exact hn ⟨i, by simpa using e.1, e.2⟩
    rw [hd']
    exact ho1
/-- The hold gone. -/
theorem DropR.leave (h : DropR w g mb n r f S who wr f' left cnt c) (h1 : Kept (fun k => k = r) wr w1) (hb : Below w1.heap.size w1 w2) (hx : f' x = some hd) (hl : left x = true) (hS : S x = some ho)
    (hm : OwnM w3 hd.g n (fun i => !decide (i = who) && ho.o i) c2) (ht : w2.mapTurned w3 hd.g) (hc : c2 = 0)
    (hrg : RangeG thK Hd.v w4 mb r n (fun t => if t = x then none else f' t) c' (fun z => left z && !decide (z = x)) cnt') (hk4 : Kept (fun k => k = mb) w3 w4) : DropR w g mb n r f S who w4 (fun t => if t = x then none else f' t) (fun z => left z && !decide (z = x)) cnt' c' := by
  obtain ⟨m1, m2⟩ := h.mid h1 hb
  have hk := turned_kept ht
  have hg : lkB g mb f' hd.g := .inr (.inr ⟨x, hd, hx, rfl⟩)
  have hSm : midS S who left x = some ho := by unfold midS; rw [hl]; exact hS
  have ho1 := m1.owner hx hSm hm ht
  refine ⟨hrg, ?_, (m2.trans hk (fun i hi => .inl (h.sub i (by rw [hi]; exact hg)))).trans hk4 (fun i hi => .inl (.inr (.inl hi))), fun k e => ?_, h.new, h.base⟩
  · rw [midS_next]
    have hd' : dropS S who x = none := by
      unfold dropS lessO
      rw [hS]
      refine if_neg ?_
      rintro ⟨i, h2, h3⟩
      have h4 := hm.fin.zero.1 hc i
      unfold own1 at h4
      simp [h3, h2] at h4
    rw [hd']
    have hg2 := ho1.gone hrg.owns hk4
    have e : (fun y => if y = x then none else (fun y => if y = x then some (⟨ho.m, fun i => !decide (i = who) && ho.o i⟩ : Ho) else midS S who left y) y) = fun y => if y = x then none else midS S who left y := by
      funext y
      by_cases e : y = x
      · simp [e]
      · simp [e]
    rw [e] at hg2
    exact hg2
  · rcases e with e | e | ⟨y, k2, hy, e⟩
    · exact .inl e
    · exact .inr (.inl e)
    · have hy := show (if y = x then none else f' y) = some k2 from hy
      by_cases ey : y = x
      · rw [if_pos ey] at hy
        cases hy
      · rw [if_neg ey] at hy
        exact h.sub _ (.inr (.inr ⟨y, k2, hy, e⟩))
/-- Behind the last round. -/
theorem DropR.end_ (h : DropR w g mb n r f S who wr f' left cnt c) (hl : ∀ x, thK.ok x → left x = false) : Kept (lkB g mb f) w wr ∧ Lk wr g n (dropS S who) (lkB g mb f) := by
  have e : midS S who left = dropS S who := by
    funext x
    unfold midS
    cases hx : left x
    · rfl
    · have hno : f x = none := by
        cases hf : f x with
        | none => rfl
        | some y =>
          obtain ⟨c, hm⟩ := h.base.map
          have := hl x (hm.ok (by rw [hf]; rfl))
          rw [hx] at this
          cases this
      show S x = dropS S who x
      unfold dropS
      rw [h.base.none_ x hno]
      rfl
  exact ⟨h.kept, mb, f', by rw [← e]; exact h.lk, h.sub⟩
end
theorem drop_nil (who : Int) (w : World) : Calls Try.prog 12 #[.pointer none, .int .i64 who] w fun e w' => e = .returned (.tuple #[]) ∧ w = w' := by
  go_enter Try.func12, Try.ntmps12
  go_wp2
  exact bodyPost_ret (results_none rfl _ _ _) rfl ⟨rfl, rfl⟩
theorem drop_start {w w0 : World} {g mb n c : Nat} {f : Th → Option Hd} {S : Th → Option Ho} {who : Int} (h : LkI w g mb n f S) (hrg : RangeG thK Hd.v w0 mb w.heap.size n f c (fun s => (f s).isSome) c) (hb : Below w.heap.size w w0) : DropR w g mb n w.heap.size f S who w0 f (fun s => (f s).isSome) c c := by
  have e : midS S who (fun s => (f s).isSome) = S := by
    funext x
    unfold midS
    dsimp only
    by_cases hs : (f x).isSome = true
    · rw [if_pos hs]
    · rw [if_neg hs]
      have hf : f x = none := by
        cases e : f x with
        | none => rfl
        | some y => rw [e] at hs; exact absurd rfl hs
      unfold dropS
      rw [h.none_ x hf]
      rfl
  exact ⟨hrg, by rw [e]; exact h.below hb, Kept.of_below hb, fun k hk => hk, Nat.le_refl _, h⟩
theorem strike_again (left : Th → Bool) (x : Th) : (fun z => (left z && !decide (z = x)) && !decide (z = x)) = fun z => left z && !decide (z = x) := by
  funext z
  cases left z <;> simp
set_option maxHeartbeats 8000000 in
theorem drop_walk {w : World} {g mb n : Nat} {f : Th → Option Hd} {S : Th → Option Ho} (h : LkI w g mb n f S) (who : Int) (hw : (Lit.int .i64 who).wf = true) :
    Calls Try.prog 12 #[.pointer (some ⟨g, 0, none⟩), .int .i64 who] w fun e w' => e = .returned (.tuple #[]) ∧ Kept (lkB g mb f) w w' ∧ Lk w' g n (dropS S who) (lkB g mb f) := by
  obtain ⟨c, hm⟩ := h.map
  have c0 := h.blk.cell 0 _ rfl
  have HI := hide h
  have HM := hide hm
  have HW := hide hw
  clear h hm hw
  go_enter Try.func12, Try.ntmps12
  go_wp2_with (at_range; refine wpList_range_G w rfl _ 39 rfl 50 mapHold mb n f c rfl HM.out ?_; intro w0 hrg hb0 hs0; have SO0 : Hid (DropR w g mb n w.heap.size f S who w0 f (fun s => (f s).isSome) c c) := hide (drop_start HI.out hrg hb0); clear hrg hb0 hs0)
  go_frame
  go_loopw [13] (fun v wr => ∃ (f' : Th → Option Hd) (left : Th → Bool) (cnt c : Nat), Hid (DropR w g mb n w.heap.size f S who wr f' left cnt c)) (fun _ wr => wr.rangeLeft mb w.heap.size)
  case atStart => exact ⟨_, _, _, _, SO0⟩
  case round =>
    clear SO0 c0 HM
    obtain ⟨f', left, cnt, c, hdr⟩ := hrel
    go_wp2_with (at_next; refine wpList_next_G wr rfl _ rfl mb w.heap.size n f' c left cnt rfl hdr.out.rg ?_ ?_)
    · intro h0 hl
      have HE := hide (hdr.out.end_ hl)
      clear hl h0 hdr
      go_wp2
      go_end0
      exact ⟨rfl, HE.out⟩
    · intro x hd w1 cnt1 hok hfx hlx hrg1 hlt1 hk1 hsz1 hen
      have hDk : DropR w g mb n w.heap.size f S who wr f' left cnt c := hdr.out
      have hsome : (f' x).isSome = true := by rw [hfx]; rfl
      obtain ⟨ho, hS, hmo, ⟨co, hown⟩, hgg, hgm⟩ := hDk.lk.some_ x hd hfx
      have hSx : S x = some ho := by
        have h9 := hS
        unfold midS at h9
        rw [hlx] at h9
        exact h9
      obtain ⟨t, b, k⟩ := x
      obtain ⟨hm, hg⟩ := hd
      have ev : thK.val ⟨t, b, k⟩ = .agg #[.int .i64 t, .bool b, .string k] := rfl
      have ed : Hd.v ⟨hm, hg⟩ = .agg #[.int .i64 hm, .map (some hg)] := rfl
      rw [ev, ed] at hen ⊢
      clear ev ed
      have HOK : Hid (Th.Ok ⟨t, b, k⟩) := hide hok
      have HD := hide hDk
      have HK1 := hide hk1
      have HFX := hide hfx
      have HLX := hide hlx
      have HSX := hide hSx
      have HRG1 := hide hrg1
      have HLT := hide hlt1
      have hb2 : Below w1.heap.size w1 ((w1.alloc (.cells #[.int .i64 t, .bool b, .string k] 43)).alloc (.cells #[.int .i64 hm, .map (some hg)] 50)) := ((Below.refl _ w1).alloc (Nat.le_refl _) _).alloc (by simp) _
      have HB2 := hide hb2
      obtain ⟨m1, m2⟩ := hDk.mid hk1 hb2
      obtain ⟨_, hS2, hmo2, ⟨c1, hown1⟩, hr91, hr92⟩ := m1.some_ _ _ hfx
      rw [hS] at hS2
      obtain rfl := Option.some.inj hS2
      obtain ⟨w3, hr3, hm3, ht3⟩ := hown1.drop mapOwn who HW.out 0
      rw [own1_del] at hm3
      generalize hcc : (if (own1 ho.o who).isSome = true then c1 - 1 else c1) = c2 at hm3
      have hr4 : (Builtin.delete_ #[48, 3] 0 #[.map (some hg), .int .i64 who]).run Try.prog (((w1.alloc (.cells #[.int .i64 t, .bool b, .string k] 43)).alloc (.cells #[.int .i64 hm, .map (some hg)] 50))) = .ok (.tuple #[]) w3 := hr3
      have hln := fun ty => hm3.len mapOwn ty
      have hk3 := turned_kept ht3
      have y0 := Blk.new_ w1 #[.int .i64 t, .bool b, .string k] 43 rfl
      have y1 := y0.alloc (.cells #[.int .i64 hm, .map (some hg)] 50)
      have y2 := Blk.new_ (w1.alloc (.cells #[.int .i64 t, .bool b, .string k] 43)) #[.int .i64 hm, .map (some hg)] 50 rfl
      have hgl : hg < w1.heap.size := Nat.lt_of_lt_of_le hown.lt hk1.size
      have z1 := hk3.blk y1 (show ¬ w1.heap.size = hg by omega)
      have z2 := hk3.blk y2 (show ¬ (w1.alloc (.cells #[.int .i64 t, .bool b, .string k] 43)).heap.size = hg by simp; omega)
      rw [World.size_alloc] at z2
      have a0 := y2.cell 1 _ rfl
      have a1 := z2.cell 1 _ rfl
      rw [World.size_alloc] at a0
      have HBX : Hid (Blk w3 w1.heap.size 43 #[.int .i64 t, .bool b, .string k]) := hide z1
      have HG0 : Hid (w3.cell? ⟨g, 0, none⟩ = some (.map (some mb))) := hide ((hk3.blk m1.blk (fun e => hgg e.symm)).cell 0 _ rfl)
      have HRG : Hid (RangeG thK Hd.v w3 mb w.heap.size n f' c (fun z => left z && !decide (z = (⟨t, b, k⟩ : Th))) cnt1) := hide ((hrg1.below hb2).same (hk3.block mb (by obtain ⟨_, hc⟩ := m1.map; exact hc.lt) (fun e => hgm e.symm)) (hk3.block _ (hrg1.below hb2).lt (fun e => hDk.far (.inr (.inr ⟨_, _, hfx, rfl⟩)) e.symm)))
      have HM3 := hide hm3
      have HT3 := hide ht3
      rw [hsz1] at a0 a1 HBX
      clear hmo2 hr91 hr92 hDk hdr hsome hS hmo hown hgg hgm hSx hok hk1 hfx hlx hrg1 hlt1 hb2 m1 m2 hown1 hr3 hm3 ht3 hk3 y0 y1 y2 z1 z2 hgl hcc
      by_cases hc0 : c2 = 0
      · have HC0 := hide hc0
        rw [hc0] at hln
        clear hc0
        go_upto_region 6 with (fail)
        refine region_phases (valV [some (.pointer (some ⟨g, 0, none⟩)), some (.pointer (some ⟨g, 0, none⟩)), some (.pointer (some ⟨g, 0, none⟩)), some (.map (some mb)), some (.agg #[.int .i64 t, .bool b, .string k]), none]) (phased [⟨5, 4, fun _ w2 => ∃ c' cnt', RangeG thK Hd.v w2 mb w.heap.size n (fun y => if y = ⟨t, b, k⟩ then none else f' y) c' (fun z => left z && !decide (z = (⟨t, b, k⟩ : Th))) cnt' ∧ cnt' ≤ cnt1 ∧ w3.drew.mapTurned w2 mb⟩] (fun w2 => w2 = w3.drew)) (by kernel_rfl) (by kernel_rfl) (by kernel_rfl) (by kernel_rfl) (phased_ext (by kernel_rfl)) (rfl) ?_ ?_
        · intro i o ho L a w2 hph hsz hLi hnot hyes old dep
          match i, ho with
          | 0, ho =>
            obtain rfl := Option.some.inj ho
            rw [if_pos (wanted_none rfl)]
            have o0 := old 0 (by kernel_rfl)
            refine wp_yields (v := .pointer (some ⟨g, 0, none⟩)) (w' := w2) ?_ (fun u hu => Option.some.inj (Option.some.inj hu)) (phased_quiet hLi (by rfl) hph)
            clear dep old ho hsz hph hnot hyes hLi
            go_simp
          | 1, ho =>
            obtain rfl := Option.some.inj ho
            rw [if_pos (wanted_none rfl)]
            have d0 : a.tmps.getD 25 undef = .pointer (some ⟨g, 0, none⟩) := dep 0 _ _ (by kernel_rfl) rfl rfl _ rfl
            have e0 : a.tmps[25]?.getD undef = .pointer (some ⟨g, 0, none⟩) := (Array.getD_eq_getD_getElem? ..).symm.trans d0
            refine wp_yields (v := .pointer (some ⟨g, 0, none⟩)) (w' := w2) ?_ (fun u hu => Option.some.inj (Option.some.inj hu)) (phased_quiet hLi (by rfl) hph)
            clear dep old ho hsz hph hnot hyes hLi
            go_simp
          | 2, ho =>
            obtain rfl := Option.some.inj ho
            rw [if_pos (wanted_none rfl)]
            have d1 : a.tmps.getD 26 undef = .pointer (some ⟨g, 0, none⟩) := dep 1 _ _ (by kernel_rfl) rfl rfl _ rfl
            have e1 : a.tmps[26]?.getD undef = .pointer (some ⟨g, 0, none⟩) := (Array.getD_eq_getD_getElem? ..).symm.trans d1
            refine wp_yields (v := .pointer (some ⟨g, 0, none⟩)) (w' := w2) ?_ (fun u hu => Option.some.inj (Option.some.inj hu)) (phased_quiet hLi (by rfl) hph)
            clear dep old ho hsz hph hnot hyes hLi
            go_simp
          | 3, ho =>
            obtain rfl := Option.some.inj ho
            rw [if_pos (wanted_none rfl)]
            have d2 : a.tmps.getD 27 undef = .pointer (some ⟨g, 0, none⟩) := dep 2 _ _ (by kernel_rfl) rfl rfl _ rfl
            have e2 : a.tmps[27]?.getD undef = .pointer (some ⟨g, 0, none⟩) := (Array.getD_eq_getD_getElem? ..).symm.trans d2
            have hW : w2 = w3.drew := phased_first (A := fun u => u = w3.drew) (fun p hp => by simp only [List.mem_cons, List.not_mem_nil, or_false] at hp; rcases hp with rfl; exact hnot 5 (by kernel_rfl)) hph
            subst hW
            have c0 : w3.drew.cell? ⟨g, 0, none⟩ = _ := HG0.out
            refine wp_yields (v := .map (some mb)) (w' := w3.drew) ?_ (fun u hu => Option.some.inj (Option.some.inj hu)) (phased_quiet hLi (by rfl) hph)
            clear dep old ho hsz hph hnot hyes hLi
            go_simp
          | 4, ho =>
            obtain rfl := Option.some.inj ho
            rw [if_pos (wanted_none rfl)]
            have o4 := old 4 (by kernel_rfl)
            have hW : w2 = w3.drew := phased_first (A := fun u => u = w3.drew) (fun p hp => by simp only [List.mem_cons, List.not_mem_nil, or_false] at hp; rcases hp with rfl; exact hnot 5 (by kernel_rfl)) hph
            subst hW
            have c0 : w3.drew.cell? ⟨wr.heap.size, 0, none⟩ = _ := HBX.out.cell 0 _ rfl
            have c1 : w3.drew.cell? ⟨wr.heap.size, 1, none⟩ = _ := HBX.out.cell 1 _ rfl
            have c2 : w3.drew.cell? ⟨wr.heap.size, 2, none⟩ = _ := HBX.out.cell 2 _ rfl
            refine wp_yields (v := .agg #[.int .i64 t, .bool b, .string k]) (w' := w3.drew) ?_ (fun u hu => Option.some.inj (Option.some.inj hu)) (phased_quiet hLi (by rfl) hph)
            clear dep old ho hsz hph hnot hyes hLi
            go_simp
          | 5, ho =>
            obtain rfl := Option.some.inj ho
            rw [if_pos (wanted_none rfl)]
            have d3 : a.tmps.getD 28 undef = .map (some mb) := dep 3 _ _ (by kernel_rfl) rfl rfl _ rfl
            have e3 : a.tmps[28]?.getD undef = .map (some mb) := (Array.getD_eq_getD_getElem? ..).symm.trans d3
            have d4 : a.tmps.getD 29 undef = .agg #[.int .i64 t, .bool b, .string k] := dep 4 _ _ (by kernel_rfl) rfl rfl _ rfl
            have e4 : a.tmps[29]?.getD undef = .agg #[.int .i64 t, .bool b, .string k] := (Array.getD_eq_getD_getElem? ..).symm.trans d4
            unfold phased at hph
            rw [if_neg (by rw [hLi]; decide)] at hph
            obtain rfl : w2 = w3.drew := hph
            obtain ⟨w9, cnt9, hr, hrg9, hle9, ht9⟩ := RangeG.drop (show RangeG thK Hd.v w3.drew mb w.heap.size n f' c (fun z => left z && !decide (z = (⟨t, b, k⟩ : Th))) cnt1 from HRG.out) mapHold ⟨t, b, k⟩ HOK.out 0
            rw [strike_again] at hrg9
            refine wp_yields (v := .tuple #[]) (w' := w9) ?_ (fun u hu => by cases Option.some.inj hu) ?_
            · have hr2 : (Builtin.delete_ #[39, 43] 0 #[.map (some mb), .agg #[.int .i64 t, .bool b, .string k]]).run Try.prog w3.drew = .ok (.tuple #[]) w9 := hr
              clear dep old ho hsz hnot hyes hLi hr hrg9 ht9
              go_simp
            · unfold phased
              rw [if_pos (by simp [also])]
              exact ⟨by simp [also, hyes 4 (by kernel_rfl)], _, _, hrg9, hle9, ht9⟩
          | i + 6, ho => exact absurd ho (by simp)
        · intro a w2 hph hsz hdf fin keep
          obtain ⟨tm, df⟩ := a
          have hx := frame_of [25, 26, 27, 28, 29] (by kernel_rfl) hsz keep
          dsimp only at hdf hx
          simp only [List.foldl_cons, List.foldl_nil] at hx
          subst hdf
          clear hsz keep
          have kn : tm.getD 25 undef = .pointer (some ⟨g, 0, none⟩) := fin 0 _ _ rfl rfl _ rfl
          rw [kn] at hx
          clear kn
          have kn : tm.getD 26 undef = .pointer (some ⟨g, 0, none⟩) := fin 1 _ _ rfl rfl _ rfl
          rw [kn] at hx
          clear kn
          have kn : tm.getD 27 undef = .pointer (some ⟨g, 0, none⟩) := fin 2 _ _ rfl rfl _ rfl
          rw [kn] at hx
          clear kn
          have kn : tm.getD 28 undef = .map (some mb) := fin 3 _ _ rfl rfl _ rfl
          rw [kn] at hx
          clear kn
          have kn : tm.getD 29 undef = .agg #[.int .i64 t, .bool b, .string k] := fin 4 _ _ rfl rfl _ rfl
          rw [kn] at hx
          clear kn
          clear fin
          simp only [List.setIfInBounds_toArray, List.set_cons_succ, List.set_cons_zero] at hx
          subst hx
          unfold phased at hph
          rw [if_pos rfl] at hph
          obtain ⟨_, hph⟩ := hph
          rename_i left9
          obtain ⟨c9, cnt9, hrg9, hle9, ht9⟩ := hph
          have hN := HD.out.leave HK1.out HB2.out HFX.out HLX.out HSX.out HM3.out HT3.out HC0.out hrg9 ((Kept.refl _ w3).drew.trans_same (turned_kept ht9))
          go_wp2
          go_roundw
          case rel => exact ⟨_, _, _, _, hide hN⟩
          case measure => rw [hN.rg.left_eq, HD.out.rg.left_eq]; have := HLT.out; omega
      · have q0 : ((c2 : Int) == 0) = false := by simp [hc0]
        have HC0 := hide hc0
        clear hc0
        have hN := hide (HD.out.stay HK1.out HB2.out HFX.out HLX.out HSX.out HRG1.out HM3.out HT3.out HC0.out)
        go_wp2
        go_roundw
        case rel => exact ⟨_, _, _, _, hN⟩
        case measure => rw [hN.out.rg.left_eq, HD.out.rg.left_eq]; have := HLT.out; omega
theorem drop_any {w : World} {g n : Nat} {S : Th → Option Ho} {O : Nat → Prop} (h : Lk w g n S O) (who : Int) (hw : (Lit.int .i64 who).wf = true) :
    Calls Try.prog 12 #[.pointer (some ⟨g, 0, none⟩), .int .i64 who] w fun e w' => e = .returned (.tuple #[]) ∧ Kept O w w' ∧ Lk w' g n (dropS S who) O := by
  obtain ⟨mb, f, h1, h2⟩ := h
  refine (drop_walk h1 who hw).mono ?_
  rintro e w' ⟨rfl, hk, hl⟩
  exact ⟨rfl, hk.mono (fun k e => .inl (h2 k e)), hl.mono (fun k e _ => h2 k e)⟩
end Go.Proofs.Ytdoeinofcklnhaa
