/-
  The walk of SumOnes.
-/
import Derived.Test.YtmeibpmcpgognaaJoins
import Derived.Test.YtmeibpmcpgognaaApp
import Derived.Handy
import Derived.Deep.AppendLies
namespace Go.Proofs.Ytmeibpmcpgognaa
open Go.ChangeShapes Go.WideShapes Go.ChangeAt Go.RowKit Crc

section
variable {w : World} {B : Nat}
/-- An array of three slices of bytes that came in. -/
theorem open_three {H : Type} {enc : TypeId × Value → H} {P : Program} {base b0 : Nat} {spare : Nat → Bool} {held : Bool} {r : Reach} {q t e : TypeId} {v : Value} {d : DataW H} {ps : List MemPlace}
    (hq : P.underlying q = some (.array 3 t)) (hcq : P.cellsOf q = 3) (hct : P.cellsOf t = 1) (ht : P.underlying t = some (.slice e)) (he : P.underlying e = some (.int .u8)) (hc : P.cellsOf e = 1) (hval : Value.okWide P w r b0 q v)
    (hd : DataW.Trod enc P w base spare held q v d ps) (hlt : ∀ x ∈ ps, x.block < B) :
    ∃ (v0 v1 v2 : Value) (l0 l1 l2 : List UInt8), v = .agg #[v0, v1, v2] ∧ l0.length ≤ maxLen ∧ l1.length ≤ maxLen ∧ l2.length ≤ maxLen ∧ Row w B v0 (u8s l0) ∧ Row w B v1 (u8s l1) ∧ Row w B v2 (u8s l2) := by
  unfold Value.okWide at hval
  rw [hq] at hval
  obtain ⟨cs, rfl, hcs, _⟩ := hval
  rw [hcq] at hcs
  obtain ⟨fuel, hf⟩ := hd
  have hlist : ∃ a b c, cs = #[a, b, c] := by
    obtain ⟨l⟩ := cs
    match l, hcs with
    | [a, b, c], _ => exact ⟨a, b, c, rfl⟩
  obtain ⟨a, b, c, rfl⟩ := hlist
  cases fuel with
  | zero => simp [DataW.trod] at hf
  | succ fuel =>
    have hf1 : DataW.trod enc P w base spare held (fuel + 1) q [a, b, c] = some (d, ps) := by simpa [Value.cells] using hf
    unfold DataW.trod at hf1
    rw [hq] at hf1
    simp only [hcq, hct, List.length_cons, List.length_nil, if_true] at hf1
    rw [show List.range 3 = [0, 1, 2] from rfl] at hf1
    simp only [List.mapM_cons, List.mapM_nil, Option.map_eq_some_iff] at hf1
    obtain ⟨xs, hxs, hx⟩ := hf1
    cases h0 : DataW.trod enc P w base spare held fuel t [a] with
    | none => simp [h0] at hxs
    | some x0 =>
      cases h1 : DataW.trod enc P w base spare held fuel t [b] with
      | none => simp [h0, h1] at hxs
      | some x1 =>
        cases h2 : DataW.trod enc P w base spare held fuel t [c] with
        | none => simp [h0, h1, h2] at hxs
        | some x2 =>
          simp [h0, h1, h2] at hxs
          subst hxs
          simp only [List.map_cons, List.map_nil, List.flatMap_cons, List.flatMap_nil, List.append_nil, Prod.mk.injEq] at hx
          obtain ⟨_, rfl⟩ := hx
          obtain ⟨d0, p0⟩ := x0
          obtain ⟨d1, p1⟩ := x1
          obtain ⟨d2, p2⟩ := x2
          obtain ⟨v0, l0, e0, m0, r0⟩ := open_bytes_cells ht he hc h0 (fun x hx => hlt x (by simp [hx]))
          obtain ⟨v1, l1, e1, m1, r1⟩ := open_bytes_cells ht he hc h1 (fun x hx => hlt x (by simp [hx]))
          obtain ⟨v2, l2, e2, m2, r2⟩ := open_bytes_cells ht he hc h2 (fun x hx => hlt x (by simp [hx]))
          injection e0 with e0
          injection e1 with e1
          injection e2 with e2
          subst e0 e1 e2
          exact ⟨_, _, _, l0, l1, l2, rfl, m0, m1, m2, r0, r1, r2⟩
end

theorem rows2 (w : World) (v u : Value) {l m : List UInt8} (hr : Rd w v (u8s l)) (hs : Rd w u (u8s m)) : (isRows [l, m]).holds (.slice (some ⟨w.heap.size, 0, none⟩) 2 2) (w.alloc (.cells #[v, u] 22)) :=
  ⟨[v, u], rfl, Rd.new_ w #[v, u] _ _ rfl rfl (Nat.le_refl _) rfl, fun i hi => by
    match i, hi with
    | 0, _ => exact ⟨v, rfl, hr.alloc _⟩
    | 1, _ => exact ⟨u, rfl, hs.alloc _⟩⟩
theorem rows3 (w : World) (v u x : Value) {l m n : List UInt8} (hr : Rd w v (u8s l)) (hs : Rd w u (u8s m)) (ht : Rd w x (u8s n)) : (isRows [l, m, n]).holds (.slice (some ⟨w.heap.size, 0, none⟩) 3 3) (w.alloc (.cells #[v, u, x] 22)) :=
  ⟨[v, u, x], rfl, Rd.new_ w #[v, u, x] _ _ rfl rfl (Nat.le_refl _) rfl, fun i hi => by
    match i, hi with
    | 0, _ => exact ⟨v, rfl, hr.alloc _⟩
    | 1, _ => exact ⟨u, rfl, hs.alloc _⟩
    | 2, _ => exact ⟨x, rfl, ht.alloc _⟩⟩
theorem of_any2 (v : Value) (l m : List UInt8) (w : World) (hm : l.length ≤ maxLen) (hn : m.length ≤ maxLen) (hv : Rows8 w w.heap.size v [l, m]) :
    Calls Try.prog 9 #[v] w fun e w' => e = .returned (.int .u32 (w32 (crc (l ++ m)))) ∧ w = w' := by
  have h := of_any v [l, m] w.heap.size w (by unfold maxLen; simp) (by simp; exact ⟨hm, hn⟩) hv
  simpa using h
theorem of_any3 (v : Value) (l m n : List UInt8) (w : World) (hm : l.length ≤ maxLen) (hn : m.length ≤ maxLen) (hk : n.length ≤ maxLen) (hv : Rows8 w w.heap.size v [l, m, n]) :
    Calls Try.prog 9 #[v] w fun e w' => e = .returned (.int .u32 (w32 (crc (l ++ (m ++ n))))) ∧ w = w' := by
  have h := of_any v [l, m, n] w.heap.size w (by unfold maxLen; simp) (by simp; exact ⟨hm, hn, hk⟩) hv
  simpa using h
theorem box_cells {w1 w2 : World} {g : Nat} {t : TypeId} {a b c : Value} (h : Blk w1 g t #[a, b, c]) (hb : Below w1.heap.size w1 w2) :
    w2.cell? ⟨g, 0, none⟩ = some a ∧ w2.cell? ⟨g, 1, none⟩ = some b ∧ w2.cell? ⟨g, 2, none⟩ = some c :=
  ⟨(h.below hb).cell 0 _ rfl, (h.below hb).cell 1 _ rfl, (h.below hb).cell 2 _ rfl⟩

set_option maxRecDepth 100000 in
set_option maxHeartbeats 6000000 in
theorem ones_walk (x y : UInt8) (v0 v1 v2 : Value) (l0 l1 l2 : List UInt8) (w : World) (m0 : l0.length ≤ maxLen) (m1 : l1.length ≤ maxLen) (m2 : l2.length ≤ maxLen) (r0 : Rd w v0 (u8s l0)) (r1 : Rd w v1 (u8s l1)) (r2 : Rd w v2 (u8s l2)) :
    Calls Try.prog 7 #[.int .u8 (x.toNat : Int), .int .u8 (y.toNat : Int), .agg #[v0, v1, v2]] w fun e w' => e = .returned (.bool true) ∧ Below w.heap.size w w' := by
  obtain ⟨A0, c0, rfl, hc0, _⟩ := id r0
  obtain ⟨A1, c1, rfl, hc1, _⟩ := id r1
  obtain ⟨A2, c2, rfl, hc2, _⟩ := id r2
  rw [u8s_length] at *
  rw [u8s_length, u8s_length]
  unfold maxLen at m0 m1 m2
  have ix0 : ∀ w, (Instr.index 32 (.agg #[.slice A0 l0.length c0, .slice A1 l1.length c1, .slice A2 l2.length c2]) (.int .i64 0)).run Try.prog w = .ok (.slice A0 l0.length c0) w := fun _ => by kernel_rfl
  have ix1 : ∀ w, (Instr.index 32 (.agg #[.slice A0 l0.length c0, .slice A1 l1.length c1, .slice A2 l2.length c2]) (.int .i64 1)).run Try.prog w = .ok (.slice A1 l1.length c1) w := fun _ => by kernel_rfl
  have ix2 : ∀ w, (Instr.index 32 (.agg #[.slice A0 l0.length c0, .slice A1 l1.length c1, .slice A2 l2.length c2]) (.int .i64 2)).run Try.prog w = .ok (.slice A2 l2.length c2) w := fun _ => by kernel_rfl
  by_cases h0 : 100 < l0.length
  · go_enter Try.func7, Try.ntmps7
    go_wp2_with (go_at_call 8; refine (fit_any _).mono ?_; rintro e w1 ⟨rfl, hb1⟩; have hblk : Blk w1 w.heap.size 32 #[.slice A0 l0.length c0, .slice A1 l1.length c1, .slice A2 l2.length c2] := (Blk.new_ w _ _ rfl).below hb1; have q0 := hblk.cell 0 _ rfl; have q1 := hblk.cell 1 _ rfl; have q2 := hblk.cell 2 _ rfl; have hbe := hide (Abv.trans (Abv.alloc (Abv.refl w) _) hb1); have HBK := hide hblk; clear hblk hb1)
    go_rounds 3
    go_ret
    exact ⟨rfl, hbe.out⟩
  by_cases h1 : 100 < l1.length
  · go_enter Try.func7, Try.ntmps7
    go_wp2_with (go_at_call 8; refine (fit_any _).mono ?_; rintro e w1 ⟨rfl, hb1⟩; have hblk : Blk w1 w.heap.size 32 #[.slice A0 l0.length c0, .slice A1 l1.length c1, .slice A2 l2.length c2] := (Blk.new_ w _ _ rfl).below hb1; have q0 := hblk.cell 0 _ rfl; have q1 := hblk.cell 1 _ rfl; have q2 := hblk.cell 2 _ rfl; have hbe := hide (Abv.trans (Abv.alloc (Abv.refl w) _) hb1); have HBK := hide hblk; clear hblk hb1)
    go_rounds 3
    go_ret
    exact ⟨rfl, hbe.out⟩
  by_cases h2 : 100 < l2.length
  · go_enter Try.func7, Try.ntmps7
    go_wp2_with (go_at_call 8; refine (fit_any _).mono ?_; rintro e w1 ⟨rfl, hb1⟩; have hblk : Blk w1 w.heap.size 32 #[.slice A0 l0.length c0, .slice A1 l1.length c1, .slice A2 l2.length c2] := (Blk.new_ w _ _ rfl).below hb1; have q0 := hblk.cell 0 _ rfl; have q1 := hblk.cell 1 _ rfl; have q2 := hblk.cell 2 _ rfl; have hbe := hide (Abv.trans (Abv.alloc (Abv.refl w) _) hb1); have HBK := hide hblk; clear hblk hb1)
    go_rounds 3
    go_ret
    exact ⟨rfl, hbe.out⟩
  have hs0 := hide (show 0 + (u8s l0).length ≤ maxLen ∧ (0 + (u8s l0).length) * 1 ≤ 140737488355328 by rw [u8s_length]; unfold maxLen; omega)
  have hs1 := hide (show 0 + (u8s l0).length + (u8s l1).length ≤ maxLen ∧ (0 + (u8s l0).length + (u8s l1).length) * 1 ≤ 140737488355328 by rw [u8s_length, u8s_length]; unfold maxLen; omega)
  have hs2 := hide (show 0 + (u8s l0).length + (u8s l1).length + (u8s l2).length ≤ maxLen ∧ (0 + (u8s l0).length + (u8s l1).length + (u8s l2).length) * 1 ≤ 140737488355328 by rw [u8s_length, u8s_length, u8s_length]; unfold maxLen; omega)
  obtain ⟨i0, hi, hz0, hz1, hz2⟩ := info_parts info8
  go_enter Try.func7, Try.ntmps7
  go_wp2_with (go_at_call 8; refine (fit_any _).mono ?_; rintro e w1 ⟨rfl, hb1⟩; have hblk : Blk w1 w.heap.size 32 #[.slice A0 l0.length c0, .slice A1 l1.length c1, .slice A2 l2.length c2] := (Blk.new_ w _ _ rfl).below hb1; have q0 := hblk.cell 0 _ rfl; have q1 := hblk.cell 1 _ rfl; have q2 := hblk.cell 2 _ rfl; have hbe := hide (Abv.trans (Abv.alloc (Abv.refl w) _) hb1); have HBK := hide hblk; clear hblk hb1)
  go_rounds 4
  have hr0 := hide (Rd.below r0 hbe.out)
  have hr1 := hide (Rd.below r1 hbe.out)
  have hr2 := hide (Rd.below r2 hbe.out)
  clear r0 r1 r2
  go_region_held3 (fun w' => w'.cell? ⟨w.heap.size, 0, none⟩ = some (.slice A0 l0.length c0) ∧ w'.cell? ⟨w.heap.size, 1, none⟩ = some (.slice A1 l1.length c1) ∧ w'.cell? ⟨w.heap.size, 2, none⟩ = some (.slice A2 l2.length c2)) (first | exact ⟨q0, q1, q2⟩ | assumption)
    (first
    | (refine step_append_rd (wanted_none rfl) (.const (.slice none 0 0)) (.tmp 21) 22 rfl (base := w1.heap.size) 5 i0 (.int .u8 0) 1 Try.underlying22 hi hz0 hz1 hz2 rfl (.slice none 0 0) (0) ([]) rfl (own_nil _ _ _) (.slice A0 l0.length c0) (u8s l0) rfl (hr0.out.drew) (oneCell_u8s _) hs0.out.1 hs0.out.2 (Nat.le_refl _) ?_; intro v2 w2 ho2 hg2 ht2; have hb2 : Below w1.heap.size w1 w2 := (Below.grown ((Below.refl w1.heap.size w1).drew) hg2 (Below.size ((Below.refl w1.heap.size w1).drew)) (by simp [Value.ownBlock])); have bx2 := box_cells HBK.out hb2)
    | (refine step_append_rd (wanted_none rfl) (.tmp 22) (.tmp 24) 22 rfl (base := w1.heap.size) 5 i0 (.int .u8 0) 1 Try.underlying22 hi hz0 hz1 hz2 rfl v2 (0 + (u8s l0).length) ([] ++ u8s l0) rfl (ho2) (.slice A1 l1.length c1) (u8s l1) rfl (Rd.below hr1.out hb2) (oneCell_u8s _) hs1.out.1 hs1.out.2 (hb2.size) ?_; intro v3 w3 ho3 hg3 ht3; have hb3 : Below w1.heap.size w1 w3 := (Below.grown hb2 hg3 (Below.size hb2) (fun k hk => (ho2.lt k hk).1)); have bx3 := box_cells HBK.out hb3)
    | (refine step_append_rd (wanted_none rfl) (.tmp 25) (.tmp 27) 22 rfl (base := w1.heap.size) 5 i0 (.int .u8 0) 1 Try.underlying22 hi hz0 hz1 hz2 rfl v3 (0 + (u8s l0).length + (u8s l1).length) ([] ++ u8s l0 ++ u8s l1) rfl (ho3) (.slice A2 l2.length c2) (u8s l2) rfl (Rd.below hr2.out hb3) (oneCell_u8s _) hs2.out.1 hs2.out.2 (hb3.size) ?_; intro v4 w4 ho4 hg4 ht4; have hb4 : Below w1.heap.size w1 w4 := (Below.grown hb3 hg4 (Below.size hb3) (fun k hk => (ho3.lt k hk).1)); have bx4 := box_cells HBK.out hb4))
  go_wp2
  have hL : [] ++ u8s l0 ++ u8s l1 ++ u8s l2 = u8s (l0 ++ (l1 ++ l2)) := by rw [u8s_append, u8s_append, List.nil_append, List.append_assoc]
  rw [hL] at ho4
  obtain ⟨A4, c4, hv4⟩ := own_form ho4
  have hrL := own_rd ho4
  have hr0 := hide (Rd.below hr0.out hb4)
  have hr1 := hide (Rd.below hr1.out hb4)
  have hr2 := hide (Rd.below hr2.out hb4)
  have hb := hide (Abv.trans hbe.out hb4)
  obtain ⟨q0, q1, q2⟩ := bx4
  have hlt : w.heap.size < w4.heap.size := Nat.lt_of_lt_of_le HBK.out.lt hb4.size
  have hLm : (l0 ++ (l1 ++ l2)).length ≤ maxLen := by rw [List.length_append, List.length_append]; unfold maxLen; omega
  have e0 : 0 + (u8s l0).length + (u8s l1).length + (u8s l2).length = (l0 ++ (l1 ++ l2)).length := by
    rw [u8s_length, u8s_length, u8s_length, List.length_append, List.length_append]; omega
  rw [e0] at hv4
  subst hv4
  have hcx : (w32 (crc [x]) == w32 (crc [y])) = ((x.toNat : Int) == (y.toNat : Int)) := by
    rw [Bool.eq_iff_iff, beq_iff_eq, beq_iff_eq, w32_inj, crc_single]
    constructor
    · intro h; rw [h]
    · intro h; exact UInt8.toNat_inj.1 (by omega)
  have hnL : (l0 ++ (l1 ++ l2)).length = l0.length + (l1.length + l2.length) := by rw [List.length_append, List.length_append]
  generalize hLL : l0 ++ (l1 ++ l2) = L at *
  have HLL := hide hLL
  have hrL := hide hrL
  have m0' : l0.length ≤ maxLen := by unfold maxLen; omega
  have m1' : l1.length ≤ maxLen := by unfold maxLen; omega
  have m2' : l2.length ≤ maxLen := by unfold maxLen; omega
  have m12' : (l1 ++ l2).length ≤ maxLen := by rw [List.length_append]; unfold maxLen; omega
  clear ho2 ho3 ho4 hg2 hg3 hg4 ht2 ht3 ht4 hb2 hb3 hb4 bx2 bx3 hL e0 hnL hLL
  refine region_ends (ops := _) [isV (.int .u8 (x.toNat : Int)), isRd (u8s [x]), isRows [[x]], isV (.int .u32 (w32 (crc [x]))), isV (.int .u8 (y.toNat : Int)), isRd (u8s [y]), isRows [[y]], isV (.int .u32 (w32 (crc [y]))), isV (.bool ((x.toNat : Int) == (y.toNat : Int))), isV (.int .u8 (x.toNat : Int)), isV (.int .u8 (y.toNat : Int)), isV (.bool ((x.toNat : Int) == (y.toNat : Int))), isV (.bool true), isV (.bool true), isV (.pointer (some ⟨w.heap.size, 0, none⟩)), isV (.slice A0 l0.length c0), isV (.pointer (some ⟨w.heap.size, 1, none⟩)), isV (.slice A1 l1.length c1), isV (.pointer (some ⟨w.heap.size, 2, none⟩)), isV (.slice A2 l2.length c2), isRows [l0, l1, l2], isV (.int .u32 (w32 (crc L))), isV (.slice A4 L.length c4), isRows [L], isV (.int .u32 (w32 (crc L))), isV (.bool true), isV (.bool true), isV (.bool true), isV (.pointer (some ⟨w.heap.size, 0, none⟩)), isV (.slice A0 l0.length c0), isV (.pointer (some ⟨w.heap.size, 1, none⟩)), isV (.slice A1 l1.length c1), isOwn w4.heap.size 5 l1, isV (.pointer (some ⟨w.heap.size, 2, none⟩)), isV (.slice A2 l2.length c2), isRd (u8s (l1 ++ l2)), isRows [l0, l1 ++ l2], isV (.int .u32 (w32 (crc L))), isV (.slice A4 L.length c4), isV (.int .u32 (w32 (crc L))), isV (.bool true), isV (.bool true), isV (.bool true)]
    (fun k j => k == 35 && (j == 1 || j == 2 || j == 5 || j == 6 || j == 20 || j == 23 || j == 32)) (fun k => k == 35) (Below w4.heap.size) (Below w4.heap.size) (by kernel_rfl) (by kernel_rfl) (by kernel_rfl) (hend_of (by kernel_rfl))
    (fun k j h => by simp only [Bool.and_eq_true, beq_iff_eq] at h; rw [h.1]; exact of_decide_eq_true rfl) ((Below.refl _ _).drew) (fun w => Below.refl _ w) (fun w w' h h' => Below.trans h (Below.mono h' (Below.size h))) (fun w w' h h' => Below.trans h h') ?_ ?_ ?_
  · intro i j v u u' hi he hne hah hu hv hk
    have hi := beq_iff_eq.1 hi
    subst hi
    match j with
    | 0 => exact hv
    | 1 => exact absurd he (by decide)
    | 2 => exact absurd he (by decide)
    | 3 => exact hv
    | 4 => exact hv
    | 5 => exact absurd he (by decide)
    | 6 => exact absurd he (by decide)
    | 7 => exact hv
    | 8 => exact hv
    | 9 => exact hv
    | 10 => exact hv
    | 11 => exact hv
    | 12 => exact hv
    | 13 => exact hv
    | 14 => exact hv
    | 15 => exact hv
    | 16 => exact hv
    | 17 => exact hv
    | 18 => exact hv
    | 19 => exact hv
    | 20 => exact absurd he (by decide)
    | 21 => exact hv
    | 22 => exact hv
    | 23 => exact absurd he (by decide)
    | 24 => exact hv
    | 25 => exact hv
    | 26 => exact hv
    | 27 => exact hv
    | 28 => exact hv
    | 29 => exact hv
    | 30 => exact hv
    | 31 => exact hv
    | 32 => exact absurd he (by decide)
    | 33 => exact hv
    | 34 => exact hv
    | 35 => exact absurd rfl hne
    | 36 => exact absurd hah (by rw [show ahead _ 36 35 = true from by kernel_rfl]; decide)
    | 37 => exact hv
    | 38 => exact hv
    | 39 => exact hv
    | 40 => exact hv
    | 41 => exact hv
    | 42 => exact hv
    | _ + 43 => exact trivial
  · intro i o ho a w2 hup hsz old dep
    match i, ho with
      | 0, ho =>
        obtain rfl := Option.some.inj ho
        rw [if_pos (wanted_none rfl)]
        have o0 := old 0 (by kernel_rfl)
        refine wp_value (v := (.int .u8 (x.toNat : Int))) (w' := w2) ?_ rfl (Abv.refl _)
        clear dep old ho hsz
        go_simp
      | 1, ho =>
        obtain rfl := Option.some.inj ho
        rw [if_pos (wanted_none rfl)]
        have d0 : a.tmps.getD 29 undef = (.int .u8 (x.toNat : Int)) := dep 0 _ _ (by kernel_rfl) (by kernel_rfl) rfl rfl
        have e0 : a.tmps[29]?.getD undef = (.int .u8 (x.toNat : Int)) := (Array.getD_eq_getD_getElem? ..).symm.trans d0
        refine wp_value (v := .slice (some ⟨w2.heap.size, 0, none⟩) 1 1) (w' := w2.alloc (.cells #[.int .u8 (x.toNat : Int)] 5)) ?_ (Rd.new_ w2 _ _ _ rfl rfl (Nat.le_refl _) rfl) ((Abv.refl _).alloc _)
        clear dep old ho hsz
        go_simp
      | 2, ho =>
        obtain rfl := Option.some.inj ho
        rw [if_pos (wanted_none rfl)]
        have d1 := dep 1 _ _ (by kernel_rfl) (by kernel_rfl) rfl rfl
        have d1' : Rd w2 (a.tmps.getD 30 undef) (u8s [x]) := d1
        obtain ⟨E, m, ev, hcc, hE⟩ := id d1'
        rw [ev] at d1'
        have ev2 := (Array.getD_eq_getD_getElem? ..).symm.trans ev
        refine wp_value (v := .slice (some ⟨w2.heap.size, 0, none⟩) 1 1) (w' := w2.alloc (.cells #[.slice E (u8s [x]).length m] 22)) ?_ (rows1 _ _ d1') ((Abv.refl _).alloc _)
        clear dep old ho hsz d1 d1' hE
        go_simp
      | 3, ho =>
        obtain rfl := Option.some.inj ho
        rw [if_pos (wanted_none rfl)]
        have d2 := dep 2 _ _ (by kernel_rfl) (by kernel_rfl) rfl rfl
        obtain ⟨v, ev, hrows⟩ : ∃ v, a.tmps.getD 31 undef = v ∧ Rows8 w2 w2.heap.size v [[x]] := ⟨_, rfl, d2⟩
        refine wp_call (f := 9) (args := #[v]) ?_ ((of_any1 v [x] w2 (by unfold maxLen; simp) hrows).mono ?_)
        · clear dep old ho hsz d2
          go_simp
        · rintro e w' ⟨rfl, rfl⟩
          exact ⟨_, rfl, rfl, Abv.refl _⟩
      | 4, ho =>
        obtain rfl := Option.some.inj ho
        rw [if_pos (wanted_none rfl)]
        have o1 := old 1 (by kernel_rfl)
        refine wp_value (v := (.int .u8 (y.toNat : Int))) (w' := w2) ?_ rfl (Abv.refl _)
        clear dep old ho hsz
        go_simp
      | 5, ho =>
        obtain rfl := Option.some.inj ho
        rw [if_pos (wanted_none rfl)]
        have d4 : a.tmps.getD 33 undef = (.int .u8 (y.toNat : Int)) := dep 4 _ _ (by kernel_rfl) (by kernel_rfl) rfl rfl
        have e4 : a.tmps[33]?.getD undef = (.int .u8 (y.toNat : Int)) := (Array.getD_eq_getD_getElem? ..).symm.trans d4
        refine wp_value (v := .slice (some ⟨w2.heap.size, 0, none⟩) 1 1) (w' := w2.alloc (.cells #[.int .u8 (y.toNat : Int)] 5)) ?_ (Rd.new_ w2 _ _ _ rfl rfl (Nat.le_refl _) rfl) ((Abv.refl _).alloc _)
        clear dep old ho hsz
        go_simp
      | 6, ho =>
        obtain rfl := Option.some.inj ho
        rw [if_pos (wanted_none rfl)]
        have d5 := dep 5 _ _ (by kernel_rfl) (by kernel_rfl) rfl rfl
        have d5' : Rd w2 (a.tmps.getD 34 undef) (u8s [y]) := d5
        obtain ⟨E, m, ev, hcc, hE⟩ := id d5'
        rw [ev] at d5'
        have ev2 := (Array.getD_eq_getD_getElem? ..).symm.trans ev
        refine wp_value (v := .slice (some ⟨w2.heap.size, 0, none⟩) 1 1) (w' := w2.alloc (.cells #[.slice E (u8s [y]).length m] 22)) ?_ (rows1 _ _ d5') ((Abv.refl _).alloc _)
        clear dep old ho hsz d5 d5' hE
        go_simp
      | 7, ho =>
        obtain rfl := Option.some.inj ho
        rw [if_pos (wanted_none rfl)]
        have d6 := dep 6 _ _ (by kernel_rfl) (by kernel_rfl) rfl rfl
        obtain ⟨v, ev, hrows⟩ : ∃ v, a.tmps.getD 35 undef = v ∧ Rows8 w2 w2.heap.size v [[y]] := ⟨_, rfl, d6⟩
        refine wp_call (f := 9) (args := #[v]) ?_ ((of_any1 v [y] w2 (by unfold maxLen; simp) hrows).mono ?_)
        · clear dep old ho hsz d6
          go_simp
        · rintro e w' ⟨rfl, rfl⟩
          exact ⟨_, rfl, rfl, Abv.refl _⟩
      | 8, ho =>
        obtain rfl := Option.some.inj ho
        rw [if_pos (wanted_none rfl)]
        have d3 : a.tmps.getD 32 undef = (.int .u32 (w32 (crc [x]))) := dep 3 _ _ (by kernel_rfl) (by kernel_rfl) rfl rfl
        have e3 : a.tmps[32]?.getD undef = (.int .u32 (w32 (crc [x]))) := (Array.getD_eq_getD_getElem? ..).symm.trans d3
        have d7 : a.tmps.getD 36 undef = (.int .u32 (w32 (crc [y]))) := dep 7 _ _ (by kernel_rfl) (by kernel_rfl) rfl rfl
        have e7 : a.tmps[36]?.getD undef = (.int .u32 (w32 (crc [y]))) := (Array.getD_eq_getD_getElem? ..).symm.trans d7
        refine wp_value (v := (.bool ((x.toNat : Int) == (y.toNat : Int)))) (w' := w2) ?_ rfl (Abv.refl _)
        clear dep old ho hsz
        go_simp
      | 9, ho =>
        obtain rfl := Option.some.inj ho
        rw [if_pos (wanted_none rfl)]
        have o0 := old 0 (by kernel_rfl)
        refine wp_value (v := (.int .u8 (x.toNat : Int))) (w' := w2) ?_ rfl (Abv.refl _)
        clear dep old ho hsz
        go_simp
      | 10, ho =>
        obtain rfl := Option.some.inj ho
        rw [if_pos (wanted_none rfl)]
        have o1 := old 1 (by kernel_rfl)
        refine wp_value (v := (.int .u8 (y.toNat : Int))) (w' := w2) ?_ rfl (Abv.refl _)
        clear dep old ho hsz
        go_simp
      | 11, ho =>
        obtain rfl := Option.some.inj ho
        rw [if_pos (wanted_none rfl)]
        have d9 : a.tmps.getD 38 undef = (.int .u8 (x.toNat : Int)) := dep 9 _ _ (by kernel_rfl) (by kernel_rfl) rfl rfl
        have e9 : a.tmps[38]?.getD undef = (.int .u8 (x.toNat : Int)) := (Array.getD_eq_getD_getElem? ..).symm.trans d9
        have d10 : a.tmps.getD 39 undef = (.int .u8 (y.toNat : Int)) := dep 10 _ _ (by kernel_rfl) (by kernel_rfl) rfl rfl
        have e10 : a.tmps[39]?.getD undef = (.int .u8 (y.toNat : Int)) := (Array.getD_eq_getD_getElem? ..).symm.trans d10
        refine wp_value (v := (.bool ((x.toNat : Int) == (y.toNat : Int)))) (w' := w2) ?_ rfl (Abv.refl _)
        clear dep old ho hsz
        go_simp
      | 12, ho =>
        obtain rfl := Option.some.inj ho
        rw [if_pos (wanted_none rfl)]
        have d8 : a.tmps.getD 37 undef = (.bool ((x.toNat : Int) == (y.toNat : Int))) := dep 8 _ _ (by kernel_rfl) (by kernel_rfl) rfl rfl
        have e8 : a.tmps[37]?.getD undef = (.bool ((x.toNat : Int) == (y.toNat : Int))) := (Array.getD_eq_getD_getElem? ..).symm.trans d8
        have d11 : a.tmps.getD 40 undef = (.bool ((x.toNat : Int) == (y.toNat : Int))) := dep 11 _ _ (by kernel_rfl) (by kernel_rfl) rfl rfl
        have e11 : a.tmps[40]?.getD undef = (.bool ((x.toNat : Int) == (y.toNat : Int))) := (Array.getD_eq_getD_getElem? ..).symm.trans d11
        refine wp_value (v := (.bool true)) (w' := w2) ?_ rfl (Abv.refl _)
        clear dep old ho hsz
        go_simp
      | 13, ho =>
        obtain rfl := Option.some.inj ho
        rw [if_pos (wanted_none rfl)]
        have d12 : a.tmps.getD 41 undef = (.bool true) := dep 12 _ _ (by kernel_rfl) (by kernel_rfl) rfl rfl
        have e12 : a.tmps[41]?.getD undef = (.bool true) := (Array.getD_eq_getD_getElem? ..).symm.trans d12
        refine wp_value (v := (.bool true)) (w' := w2) ?_ rfl (Abv.refl _)
        clear dep old ho hsz
        go_simp
      | 14, ho =>
        obtain rfl := Option.some.inj ho
        have g13 := dep 13 _ _ (by kernel_rfl) (by kernel_rfl) rfl rfl
        rw [if_pos (wanted_some (j := 13) (d := 42) rfl rfl rfl (by rw [hsz]; exact of_decide_eq_true rfl) g13)]
        clear g13
        have o5 := old 5 (by kernel_rfl)
        refine wp_value (v := (.pointer (some ⟨w.heap.size, 0, none⟩))) (w' := w2) ?_ rfl (Abv.refl _)
        clear dep old ho hsz
        go_simp
      | 15, ho =>
        obtain rfl := Option.some.inj ho
        have g13 := dep 13 _ _ (by kernel_rfl) (by kernel_rfl) rfl rfl
        rw [if_pos (wanted_some (j := 13) (d := 42) rfl rfl rfl (by rw [hsz]; exact of_decide_eq_true rfl) g13)]
        clear g13
        have d14 : a.tmps.getD 43 undef = (.pointer (some ⟨w.heap.size, 0, none⟩)) := dep 14 _ _ (by kernel_rfl) (by kernel_rfl) rfl rfl
        have e14 : a.tmps[43]?.getD undef = (.pointer (some ⟨w.heap.size, 0, none⟩)) := (Array.getD_eq_getD_getElem? ..).symm.trans d14
        have bk := (Below.cell (p := ⟨w.heap.size, 0, none⟩) hup (by exact hlt)).trans q0
        refine wp_value (v := .slice A0 l0.length c0) (w' := w2) ?_ rfl (Abv.refl _)
        clear dep old ho hsz
        go_simp
      | 16, ho =>
        obtain rfl := Option.some.inj ho
        have g13 := dep 13 _ _ (by kernel_rfl) (by kernel_rfl) rfl rfl
        rw [if_pos (wanted_some (j := 13) (d := 42) rfl rfl rfl (by rw [hsz]; exact of_decide_eq_true rfl) g13)]
        clear g13
        have o5 := old 5 (by kernel_rfl)
        refine wp_value (v := (.pointer (some ⟨w.heap.size, 1, none⟩))) (w' := w2) ?_ rfl (Abv.refl _)
        clear dep old ho hsz
        go_simp
      | 17, ho =>
        obtain rfl := Option.some.inj ho
        have g13 := dep 13 _ _ (by kernel_rfl) (by kernel_rfl) rfl rfl
        rw [if_pos (wanted_some (j := 13) (d := 42) rfl rfl rfl (by rw [hsz]; exact of_decide_eq_true rfl) g13)]
        clear g13
        have d16 : a.tmps.getD 45 undef = (.pointer (some ⟨w.heap.size, 1, none⟩)) := dep 16 _ _ (by kernel_rfl) (by kernel_rfl) rfl rfl
        have e16 : a.tmps[45]?.getD undef = (.pointer (some ⟨w.heap.size, 1, none⟩)) := (Array.getD_eq_getD_getElem? ..).symm.trans d16
        have bk := (Below.cell (p := ⟨w.heap.size, 1, none⟩) hup (by exact hlt)).trans q1
        refine wp_value (v := .slice A1 l1.length c1) (w' := w2) ?_ rfl (Abv.refl _)
        clear dep old ho hsz
        go_simp
      | 18, ho =>
        obtain rfl := Option.some.inj ho
        have g13 := dep 13 _ _ (by kernel_rfl) (by kernel_rfl) rfl rfl
        rw [if_pos (wanted_some (j := 13) (d := 42) rfl rfl rfl (by rw [hsz]; exact of_decide_eq_true rfl) g13)]
        clear g13
        have o5 := old 5 (by kernel_rfl)
        refine wp_value (v := (.pointer (some ⟨w.heap.size, 2, none⟩))) (w' := w2) ?_ rfl (Abv.refl _)
        clear dep old ho hsz
        go_simp
      | 19, ho =>
        obtain rfl := Option.some.inj ho
        have g13 := dep 13 _ _ (by kernel_rfl) (by kernel_rfl) rfl rfl
        rw [if_pos (wanted_some (j := 13) (d := 42) rfl rfl rfl (by rw [hsz]; exact of_decide_eq_true rfl) g13)]
        clear g13
        have d18 : a.tmps.getD 47 undef = (.pointer (some ⟨w.heap.size, 2, none⟩)) := dep 18 _ _ (by kernel_rfl) (by kernel_rfl) rfl rfl
        have e18 : a.tmps[47]?.getD undef = (.pointer (some ⟨w.heap.size, 2, none⟩)) := (Array.getD_eq_getD_getElem? ..).symm.trans d18
        have bk := (Below.cell (p := ⟨w.heap.size, 2, none⟩) hup (by exact hlt)).trans q2
        refine wp_value (v := .slice A2 l2.length c2) (w' := w2) ?_ rfl (Abv.refl _)
        clear dep old ho hsz
        go_simp
      | 20, ho =>
        obtain rfl := Option.some.inj ho
        have g13 := dep 13 _ _ (by kernel_rfl) (by kernel_rfl) rfl rfl
        rw [if_pos (wanted_some (j := 13) (d := 42) rfl rfl rfl (by rw [hsz]; exact of_decide_eq_true rfl) g13)]
        clear g13
        have d15 : a.tmps.getD 44 undef = (.slice A0 l0.length c0) := dep 15 _ _ (by kernel_rfl) (by kernel_rfl) rfl rfl
        have e15 : a.tmps[44]?.getD undef = (.slice A0 l0.length c0) := (Array.getD_eq_getD_getElem? ..).symm.trans d15
        have d17 : a.tmps.getD 46 undef = (.slice A1 l1.length c1) := dep 17 _ _ (by kernel_rfl) (by kernel_rfl) rfl rfl
        have e17 : a.tmps[46]?.getD undef = (.slice A1 l1.length c1) := (Array.getD_eq_getD_getElem? ..).symm.trans d17
        have d19 : a.tmps.getD 48 undef = (.slice A2 l2.length c2) := dep 19 _ _ (by kernel_rfl) (by kernel_rfl) rfl rfl
        have e19 : a.tmps[48]?.getD undef = (.slice A2 l2.length c2) := (Array.getD_eq_getD_getElem? ..).symm.trans d19
        refine wp_value (v := .slice (some ⟨w2.heap.size, 0, none⟩) 3 3) (w' := w2.alloc (.cells #[.slice A0 l0.length c0, .slice A1 l1.length c1, .slice A2 l2.length c2] 22)) ?_ (rows3 _ _ _ _ (Rd.below hr0.out hup) (Rd.below hr1.out hup) (Rd.below hr2.out hup)) ((Abv.refl _).alloc _)
        clear dep old ho hsz
        go_simp
      | 21, ho =>
        obtain rfl := Option.some.inj ho
        have g13 := dep 13 _ _ (by kernel_rfl) (by kernel_rfl) rfl rfl
        rw [if_pos (wanted_some (j := 13) (d := 42) rfl rfl rfl (by rw [hsz]; exact of_decide_eq_true rfl) g13)]
        clear g13
        have d20 := dep 20 _ _ (by kernel_rfl) (by kernel_rfl) rfl rfl
        obtain ⟨v, ev, hrows⟩ : ∃ v, a.tmps.getD 49 undef = v ∧ Rows8 w2 w2.heap.size v [l0, l1, l2] := ⟨_, rfl, d20⟩
        refine wp_call (f := 9) (args := #[v]) ?_ ((of_any3 v l0 l1 l2 w2 m0' m1' m2' hrows).mono ?_)
        · clear dep old ho hsz d20
          go_simp
        · rintro e w' ⟨rfl, rfl⟩
          exact ⟨_, rfl, congrArg (fun l => Value.int .u32 (w32 (crc l))) HLL.out, Abv.refl _⟩
      | 22, ho =>
        obtain rfl := Option.some.inj ho
        have g13 := dep 13 _ _ (by kernel_rfl) (by kernel_rfl) rfl rfl
        rw [if_pos (wanted_some (j := 13) (d := 42) rfl rfl rfl (by rw [hsz]; exact of_decide_eq_true rfl) g13)]
        clear g13
        have o9 := old 9 (by kernel_rfl)
        refine wp_value (v := (.slice A4 L.length c4)) (w' := w2) ?_ rfl (Abv.refl _)
        clear dep old ho hsz
        go_simp
      | 23, ho =>
        obtain rfl := Option.some.inj ho
        have g13 := dep 13 _ _ (by kernel_rfl) (by kernel_rfl) rfl rfl
        rw [if_pos (wanted_some (j := 13) (d := 42) rfl rfl rfl (by rw [hsz]; exact of_decide_eq_true rfl) g13)]
        clear g13
        have d22 : a.tmps.getD 51 undef = (.slice A4 L.length c4) := dep 22 _ _ (by kernel_rfl) (by kernel_rfl) rfl rfl
        have e22 : a.tmps[51]?.getD undef = (.slice A4 L.length c4) := (Array.getD_eq_getD_getElem? ..).symm.trans d22
        refine wp_value (v := .slice (some ⟨w2.heap.size, 0, none⟩) 1 1) (w' := w2.alloc (.cells #[.slice A4 L.length c4] 22)) ?_ (rows1 _ _ (Rd.below hrL.out hup)) ((Abv.refl _).alloc _)
        clear dep old ho hsz
        go_simp
      | 24, ho =>
        obtain rfl := Option.some.inj ho
        have g13 := dep 13 _ _ (by kernel_rfl) (by kernel_rfl) rfl rfl
        rw [if_pos (wanted_some (j := 13) (d := 42) rfl rfl rfl (by rw [hsz]; exact of_decide_eq_true rfl) g13)]
        clear g13
        have d23 := dep 23 _ _ (by kernel_rfl) (by kernel_rfl) rfl rfl
        obtain ⟨v, ev, hrows⟩ : ∃ v, a.tmps.getD 52 undef = v ∧ Rows8 w2 w2.heap.size v [L] := ⟨_, rfl, d23⟩
        refine wp_call (f := 9) (args := #[v]) ?_ ((of_any1 v L w2 (hLm) hrows).mono ?_)
        · clear dep old ho hsz d23
          go_simp
        · rintro e w' ⟨rfl, rfl⟩
          exact ⟨_, rfl, rfl, Abv.refl _⟩
      | 25, ho =>
        obtain rfl := Option.some.inj ho
        have g13 := dep 13 _ _ (by kernel_rfl) (by kernel_rfl) rfl rfl
        rw [if_pos (wanted_some (j := 13) (d := 42) rfl rfl rfl (by rw [hsz]; exact of_decide_eq_true rfl) g13)]
        clear g13
        have d21 : a.tmps.getD 50 undef = (.int .u32 (w32 (crc L))) := dep 21 _ _ (by kernel_rfl) (by kernel_rfl) rfl rfl
        have e21 : a.tmps[50]?.getD undef = (.int .u32 (w32 (crc L))) := (Array.getD_eq_getD_getElem? ..).symm.trans d21
        have d24 : a.tmps.getD 53 undef = (.int .u32 (w32 (crc L))) := dep 24 _ _ (by kernel_rfl) (by kernel_rfl) rfl rfl
        have e24 : a.tmps[53]?.getD undef = (.int .u32 (w32 (crc L))) := (Array.getD_eq_getD_getElem? ..).symm.trans d24
        refine wp_value (v := (.bool true)) (w' := w2) ?_ rfl (Abv.refl _)
        clear dep old ho hsz
        go_simp
      | 26, ho =>
        obtain rfl := Option.some.inj ho
        rw [if_pos (wanted_none rfl)]
        have d13 : a.tmps.getD 42 undef = (.bool true) := dep 13 _ _ (by kernel_rfl) (by kernel_rfl) rfl rfl
        have e13 : a.tmps[42]?.getD undef = (.bool true) := (Array.getD_eq_getD_getElem? ..).symm.trans d13
        have d25 : a.tmps.getD 54 undef = (.bool true) := dep 25 _ _ (by kernel_rfl) (by kernel_rfl) rfl rfl
        have e25 : a.tmps[54]?.getD undef = (.bool true) := (Array.getD_eq_getD_getElem? ..).symm.trans d25
        refine wp_value (v := (.bool true)) (w' := w2) ?_ rfl (Abv.refl _)
        clear dep old ho hsz
        go_simp
      | 27, ho =>
        obtain rfl := Option.some.inj ho
        rw [if_pos (wanted_none rfl)]
        have d26 : a.tmps.getD 55 undef = (.bool true) := dep 26 _ _ (by kernel_rfl) (by kernel_rfl) rfl rfl
        have e26 : a.tmps[55]?.getD undef = (.bool true) := (Array.getD_eq_getD_getElem? ..).symm.trans d26
        refine wp_value (v := (.bool true)) (w' := w2) ?_ rfl (Abv.refl _)
        clear dep old ho hsz
        go_simp
      | 28, ho =>
        obtain rfl := Option.some.inj ho
        have g27 := dep 27 _ _ (by kernel_rfl) (by kernel_rfl) rfl rfl
        rw [if_pos (wanted_some (j := 27) (d := 56) rfl rfl rfl (by rw [hsz]; exact of_decide_eq_true rfl) g27)]
        clear g27
        have o5 := old 5 (by kernel_rfl)
        refine wp_value (v := (.pointer (some ⟨w.heap.size, 0, none⟩))) (w' := w2) ?_ rfl (Abv.refl _)
        clear dep old ho hsz
        go_simp
      | 29, ho =>
        obtain rfl := Option.some.inj ho
        have g27 := dep 27 _ _ (by kernel_rfl) (by kernel_rfl) rfl rfl
        rw [if_pos (wanted_some (j := 27) (d := 56) rfl rfl rfl (by rw [hsz]; exact of_decide_eq_true rfl) g27)]
        clear g27
        have d28 : a.tmps.getD 57 undef = (.pointer (some ⟨w.heap.size, 0, none⟩)) := dep 28 _ _ (by kernel_rfl) (by kernel_rfl) rfl rfl
        have e28 : a.tmps[57]?.getD undef = (.pointer (some ⟨w.heap.size, 0, none⟩)) := (Array.getD_eq_getD_getElem? ..).symm.trans d28
        have bk := (Below.cell (p := ⟨w.heap.size, 0, none⟩) hup (by exact hlt)).trans q0
        refine wp_value (v := .slice A0 l0.length c0) (w' := w2) ?_ rfl (Abv.refl _)
        clear dep old ho hsz
        go_simp
      | 30, ho =>
        obtain rfl := Option.some.inj ho
        have g27 := dep 27 _ _ (by kernel_rfl) (by kernel_rfl) rfl rfl
        rw [if_pos (wanted_some (j := 27) (d := 56) rfl rfl rfl (by rw [hsz]; exact of_decide_eq_true rfl) g27)]
        clear g27
        have o5 := old 5 (by kernel_rfl)
        refine wp_value (v := (.pointer (some ⟨w.heap.size, 1, none⟩))) (w' := w2) ?_ rfl (Abv.refl _)
        clear dep old ho hsz
        go_simp
      | 31, ho =>
        obtain rfl := Option.some.inj ho
        have g27 := dep 27 _ _ (by kernel_rfl) (by kernel_rfl) rfl rfl
        rw [if_pos (wanted_some (j := 27) (d := 56) rfl rfl rfl (by rw [hsz]; exact of_decide_eq_true rfl) g27)]
        clear g27
        have d30 : a.tmps.getD 59 undef = (.pointer (some ⟨w.heap.size, 1, none⟩)) := dep 30 _ _ (by kernel_rfl) (by kernel_rfl) rfl rfl
        have e30 : a.tmps[59]?.getD undef = (.pointer (some ⟨w.heap.size, 1, none⟩)) := (Array.getD_eq_getD_getElem? ..).symm.trans d30
        have bk := (Below.cell (p := ⟨w.heap.size, 1, none⟩) hup (by exact hlt)).trans q1
        refine wp_value (v := .slice A1 l1.length c1) (w' := w2) ?_ rfl (Abv.refl _)
        clear dep old ho hsz
        go_simp
      | 32, ho =>
        obtain rfl := Option.some.inj ho
        have g27 := dep 27 _ _ (by kernel_rfl) (by kernel_rfl) rfl rfl
        rw [if_pos (wanted_some (j := 27) (d := 56) rfl rfl rfl (by rw [hsz]; exact of_decide_eq_true rfl) g27)]
        clear g27
        have d31 : a.tmps.getD 60 undef = (.slice A1 l1.length c1) := dep 31 _ _ (by kernel_rfl) (by kernel_rfl) rfl rfl
        have e31 : a.tmps[60]?.getD undef = (.slice A1 l1.length c1) := (Array.getD_eq_getD_getElem? ..).symm.trans d31
        refine wp_append_rd rfl (.const (.slice none 0 0)) (.tmp 60) 22 rfl (base := w4.heap.size) 5 i0 (.int .u8 0) 1 Try.underlying22 hi hz0 hz1 hz2 rfl (.slice none 0 0) 0 [] rfl (own_nil _ _ _) (.slice A1 l1.length c1) (u8s l1) d31 (Rd.below hr1.out hup) (oneCell_u8s _) (by rw [u8s_length]; unfold maxLen; omega) (by rw [u8s_length]; omega) (Below.size hup) ?_
        intro v' w' h1 h2 h3
        refine ⟨?_, ⟨h2.os, h2.tape, h2.output, h2.size, fun k hk => h2.block k hk (by simp [Value.ownBlock])⟩⟩
        rw [Nat.zero_add, u8s_length, List.nil_append] at h1
        exact h1
      | 33, ho =>
        obtain rfl := Option.some.inj ho
        have g27 := dep 27 _ _ (by kernel_rfl) (by kernel_rfl) rfl rfl
        rw [if_pos (wanted_some (j := 27) (d := 56) rfl rfl rfl (by rw [hsz]; exact of_decide_eq_true rfl) g27)]
        clear g27
        have o5 := old 5 (by kernel_rfl)
        refine wp_value (v := (.pointer (some ⟨w.heap.size, 2, none⟩))) (w' := w2) ?_ rfl (Abv.refl _)
        clear dep old ho hsz
        go_simp
      | 34, ho =>
        obtain rfl := Option.some.inj ho
        have g27 := dep 27 _ _ (by kernel_rfl) (by kernel_rfl) rfl rfl
        rw [if_pos (wanted_some (j := 27) (d := 56) rfl rfl rfl (by rw [hsz]; exact of_decide_eq_true rfl) g27)]
        clear g27
        have d33 : a.tmps.getD 62 undef = (.pointer (some ⟨w.heap.size, 2, none⟩)) := dep 33 _ _ (by kernel_rfl) (by kernel_rfl) rfl rfl
        have e33 : a.tmps[62]?.getD undef = (.pointer (some ⟨w.heap.size, 2, none⟩)) := (Array.getD_eq_getD_getElem? ..).symm.trans d33
        have bk := (Below.cell (p := ⟨w.heap.size, 2, none⟩) hup (by exact hlt)).trans q2
        refine wp_value (v := .slice A2 l2.length c2) (w' := w2) ?_ rfl (Abv.refl _)
        clear dep old ho hsz
        go_simp
      | 35, ho =>
        obtain rfl := Option.some.inj ho
        have g27 := dep 27 _ _ (by kernel_rfl) (by kernel_rfl) rfl rfl
        rw [if_pos (wanted_some (j := 27) (d := 56) rfl rfl rfl (by rw [hsz]; exact of_decide_eq_true rfl) g27)]
        clear g27
        have d32 := dep 32 _ _ (by kernel_rfl) (by kernel_rfl) rfl rfl
        have d34 : a.tmps.getD 63 undef = (.slice A2 l2.length c2) := dep 34 _ _ (by kernel_rfl) (by kernel_rfl) rfl rfl
        have e34 : a.tmps[63]?.getD undef = (.slice A2 l2.length c2) := (Array.getD_eq_getD_getElem? ..).symm.trans d34
        refine wp_append_rd rfl (.tmp 61) (.tmp 63) 22 rfl (base := w4.heap.size) 5 i0 (.int .u8 0) 1 Try.underlying22 hi hz0 hz1 hz2 rfl _ l1.length (u8s l1) rfl d32 (.slice A2 l2.length c2) (u8s l2) d34 (Rd.below hr2.out hup) (oneCell_u8s _) (by rw [u8s_length]; unfold maxLen; omega) (by rw [u8s_length]; omega) (Below.size hup) ?_
        intro v' w' h1 h2 h3
        refine ⟨?_, ⟨h2.os, h2.tape, h2.output, h2.size, fun k hk => h2.block k (Nat.lt_of_lt_of_le hk (Below.size hup)) (fun e => by have := (World.ownsRow.lt d32 k e.symm).1; omega)⟩⟩
        have h4 := own_rd h1
        rw [← u8s_append] at h4
        exact h4
      | 36, ho =>
        obtain rfl := Option.some.inj ho
        have g27 := dep 27 _ _ (by kernel_rfl) (by kernel_rfl) rfl rfl
        rw [if_pos (wanted_some (j := 27) (d := 56) rfl rfl rfl (by rw [hsz]; exact of_decide_eq_true rfl) g27)]
        clear g27
        have d29 : a.tmps.getD 58 undef = (.slice A0 l0.length c0) := dep 29 _ _ (by kernel_rfl) (by kernel_rfl) rfl rfl
        have e29 : a.tmps[58]?.getD undef = (.slice A0 l0.length c0) := (Array.getD_eq_getD_getElem? ..).symm.trans d29
        have d35 := dep 35 _ _ (by kernel_rfl) (by kernel_rfl) rfl rfl
        have d35' : Rd w2 (a.tmps.getD 64 undef) (u8s (l1 ++ l2)) := d35
        obtain ⟨E, m, ev, hcc, hE⟩ := id d35'
        rw [ev] at d35'
        have ev2 := (Array.getD_eq_getD_getElem? ..).symm.trans ev
        refine wp_value (v := .slice (some ⟨w2.heap.size, 0, none⟩) 2 2) (w' := w2.alloc (.cells #[.slice A0 l0.length c0, .slice E (u8s (l1 ++ l2)).length m] 22)) ?_ (rows2 _ _ _ (Rd.below hr0.out hup) d35') ((Abv.refl _).alloc _)
        clear dep old ho hsz d35 d35' hE
        go_simp
      | 37, ho =>
        obtain rfl := Option.some.inj ho
        have g27 := dep 27 _ _ (by kernel_rfl) (by kernel_rfl) rfl rfl
        rw [if_pos (wanted_some (j := 27) (d := 56) rfl rfl rfl (by rw [hsz]; exact of_decide_eq_true rfl) g27)]
        clear g27
        have d36 := dep 36 _ _ (by kernel_rfl) (by kernel_rfl) rfl rfl
        obtain ⟨v, ev, hrows⟩ : ∃ v, a.tmps.getD 65 undef = v ∧ Rows8 w2 w2.heap.size v [l0, l1 ++ l2] := ⟨_, rfl, d36⟩
        refine wp_call (f := 9) (args := #[v]) ?_ ((of_any2 v l0 (l1 ++ l2) w2 m0' m12' hrows).mono ?_)
        · clear dep old ho hsz d36
          go_simp
        · rintro e w' ⟨rfl, rfl⟩
          exact ⟨_, rfl, congrArg (fun l => Value.int .u32 (w32 (crc l))) HLL.out, Abv.refl _⟩
      | 38, ho =>
        obtain rfl := Option.some.inj ho
        have g27 := dep 27 _ _ (by kernel_rfl) (by kernel_rfl) rfl rfl
        rw [if_pos (wanted_some (j := 27) (d := 56) rfl rfl rfl (by rw [hsz]; exact of_decide_eq_true rfl) g27)]
        clear g27
        have o9 := old 9 (by kernel_rfl)
        refine wp_value (v := (.slice A4 L.length c4)) (w' := w2) ?_ rfl (Abv.refl _)
        clear dep old ho hsz
        go_simp
      | 39, ho =>
        obtain rfl := Option.some.inj ho
        have g27 := dep 27 _ _ (by kernel_rfl) (by kernel_rfl) rfl rfl
        rw [if_pos (wanted_some (j := 27) (d := 56) rfl rfl rfl (by rw [hsz]; exact of_decide_eq_true rfl) g27)]
        clear g27
        have d38 : a.tmps.getD 67 undef = (.slice A4 L.length c4) := dep 38 _ _ (by kernel_rfl) (by kernel_rfl) rfl rfl
        have e38 : a.tmps[67]?.getD undef = (.slice A4 L.length c4) := (Array.getD_eq_getD_getElem? ..).symm.trans d38
        refine wp_call (f := 10) (args := #[.slice A4 L.length c4]) ?_ ((slow8 hLm (Rd.below hrL.out hup)).mono ?_)
        · clear dep old ho hsz
          go_simp
        · rintro e w' ⟨rfl, rfl⟩
          exact ⟨_, rfl, rfl, Abv.refl _⟩
      | 40, ho =>
        obtain rfl := Option.some.inj ho
        have g27 := dep 27 _ _ (by kernel_rfl) (by kernel_rfl) rfl rfl
        rw [if_pos (wanted_some (j := 27) (d := 56) rfl rfl rfl (by rw [hsz]; exact of_decide_eq_true rfl) g27)]
        clear g27
        have d37 : a.tmps.getD 66 undef = (.int .u32 (w32 (crc L))) := dep 37 _ _ (by kernel_rfl) (by kernel_rfl) rfl rfl
        have e37 : a.tmps[66]?.getD undef = (.int .u32 (w32 (crc L))) := (Array.getD_eq_getD_getElem? ..).symm.trans d37
        have d39 : a.tmps.getD 68 undef = (.int .u32 (w32 (crc L))) := dep 39 _ _ (by kernel_rfl) (by kernel_rfl) rfl rfl
        have e39 : a.tmps[68]?.getD undef = (.int .u32 (w32 (crc L))) := (Array.getD_eq_getD_getElem? ..).symm.trans d39
        refine wp_value (v := (.bool true)) (w' := w2) ?_ rfl (Abv.refl _)
        clear dep old ho hsz
        go_simp
      | 41, ho =>
        obtain rfl := Option.some.inj ho
        rw [if_pos (wanted_none rfl)]
        have d27 : a.tmps.getD 56 undef = (.bool true) := dep 27 _ _ (by kernel_rfl) (by kernel_rfl) rfl rfl
        have e27 : a.tmps[56]?.getD undef = (.bool true) := (Array.getD_eq_getD_getElem? ..).symm.trans d27
        have d40 : a.tmps.getD 69 undef = (.bool true) := dep 40 _ _ (by kernel_rfl) (by kernel_rfl) rfl rfl
        have e40 : a.tmps[69]?.getD undef = (.bool true) := (Array.getD_eq_getD_getElem? ..).symm.trans d40
        refine wp_value (v := (.bool true)) (w' := w2) ?_ rfl (Abv.refl _)
        clear dep old ho hsz
        go_simp
      | 42, ho =>
        obtain rfl := Option.some.inj ho
        rw [if_pos (wanted_none rfl)]
        have d41 : a.tmps.getD 70 undef = (.bool true) := dep 41 _ _ (by kernel_rfl) (by kernel_rfl) rfl rfl
        have e41 : a.tmps[70]?.getD undef = (.bool true) := (Array.getD_eq_getD_getElem? ..).symm.trans d41
        refine wp_value (v := (.bool true)) (w' := w2) ?_ rfl (Abv.refl _)
        clear dep old ho hsz
        go_simp
      | i + 43, ho => exact absurd ho (by simp)
  · intro a w2 hup hsz hdf fin keep
    have hret : a.tmps.getD 6 undef = .bool true := fin 42 _ _ (fun k => by simp) rfl rfl
    clear fin keep
    go_wp2
    refine bodyPost_ret (results_tmp rfl _ _ _) hdf ?_
    exact ⟨congrArg Ending.returned hret, Below.trans hb.out (Below.mono hup (Below.size hb.out))⟩
end Go.Proofs.Ytmeibpmcpgognaa
