/-
  RestartParts' walk (written by r12/mkparts12.py).
-/
import Derived.Test.YtoifghofkjomnaaMute12
import Derived.BigQuiet
import Derived.Deep.CutBlock
namespace Go.Proofs.Ytoifghofkjomnaa
open Go.RowKit
set_option maxRecDepth 20000
set_option linter.unusedSimpArgs false
set_option linter.unusedVariables false

/-- The entries of one transaction. -/
def ownE (m : Nat) (es : List Ei) : List Ei := es.filter fun x => decide (x.r.t = m)
theorem ownE_snoc (m : Nat) (es : List Ei) (x : Ei) : ownE m (es ++ [x]) = if x.r.t = m then ownE m es ++ [x] else ownE m es := by
  unfold ownE
  rw [List.filter_append]
  by_cases h : x.r.t = m
  · rw [if_pos h, List.filter_cons_of_pos (by simpa using h), List.filter_nil]
  · rw [if_neg h, List.filter_cons_of_neg (by simpa using h), List.filter_nil, List.append_nil]
theorem ownE_len (m : Nat) (es : List Ei) : (ownE m es).length ≤ es.length := List.length_filter_le _ _
theorem ownE_lo (m : Nat) (es : List Ei) : loP (ownE m es) m = loP es m := by
  have : ∀ (es : List Ei) (l : List Ch), (ownE m es).foldl (fun l e => loS m l e.r) l = es.foldl (fun l e => loS m l e.r) l := by
    intro es
    induction es with
    | nil => intro l; rfl
    | cons e es ih =>
      intro l
      unfold ownE at ih ⊢
      by_cases h : e.r.t = m
      · rw [List.filter_cons_of_pos (by simpa using h), List.foldl_cons, List.foldl_cons, ih]
      · rw [List.filter_cons_of_neg (by simpa using h), List.foldl_cons, ih, show loS m l e.r = l from if_neg h]
  unfold loP
  rw [this]
theorem ownE_op (m : Nat) (es : List Ei) : opP (ownE m es) m = opP es m := by
  have : ∀ (es : List Ei) (l : Bool), (ownE m es).foldl (fun b e => opS m b e.r) l = es.foldl (fun b e => opS m b e.r) l := by
    intro es
    induction es with
    | nil => intro l; rfl
    | cons e es ih =>
      intro l
      unfold ownE at ih ⊢
      by_cases h : e.r.t = m
      · rw [List.filter_cons_of_pos (by simpa using h), List.foldl_cons, List.foldl_cons, ih]
      · rw [List.filter_cons_of_neg (by simpa using h), List.foldl_cons, ih, show opS m l e.r = l from if_neg h]
  unfold opP
  rw [this]
theorem ownE_other {m k : Nat} (h : k ≠ m) (es : List Ei) : opP (ownE m es) k = false := by
  have : ∀ (es : List Ei), (ownE m es).foldl (fun b e => opS k b e.r) false = false := by
    intro es
    induction es with
    | nil => rfl
    | cons e es ih =>
      unfold ownE at ih ⊢
      by_cases h2 : e.r.t = m
      · rw [List.filter_cons_of_pos (by simpa using h2), List.foldl_cons, show opS k false e.r = false from if_neg (by omega), ih]
      · rw [List.filter_cons_of_neg (by simpa using h2), ih]
  unfold opP
  split
  · exact this es
  · rfl
theorem an_p1 (HAN : AnSaid) {A0 W : World} {F0 : Nat → Prop} {L : List Res} {i : Nat} {v : Value} {es : List Ei} {l : List Ch} {ob : Bool} (h : Ow A0 F0 W L) (hi : L[i]? = some (Res.row eiK v es)) (hd : ∀ x ∈ es, DOk W x) (hl : es.length ≤ 1000) (h1 : loP es 1 = l) (h2 : opP es 1 = ob) :
    Calls Try.prog 12 #[v] W fun e W' => ∃ (f5 : Nat) (A5 : Nat → Option Addr) (n5 c5 : Nat → Nat) (o5 : Nat → Bool), e = .returned (.agg #[.int .u64 (f5 : Int), .slice (A5 0) (n5 0) (c5 0), .slice (A5 1) l.length (c5 1), .slice (A5 2) (n5 2) (c5 2), .slice (A5 3) (n5 3) (c5 3), .bool (o5 0), .bool ob, .bool (o5 2), .bool (o5 3)]) ∧ Ow A0 F0 W' (L ++ [Res.kins chK 1 (fun _ => .slice (A5 1) l.length (c5 1)) (fun _ => l)]) ∧ Hid (Below W.heap.size W W') := by
  refine (an_any HAN (h.krow hi) hd hl).mono ?_
  rintro e W' ⟨A, c, rfl, hb, hk⟩
  refine ⟨frP es, A, fun t => (loP es t).length, c, opP es, ?_, h.push hb (fun t _ => by have := hk 1 (by decide); rw [h1] at this; exact this), hide hb⟩
  unfold planC
  dsimp only
  rw [h1, h2]
theorem an_q1 (HAN : AnSaid) {A0 W : World} {F0 : Nat → Prop} {L : List Res} {i : Nat} {v : Value} {es : List Ei} {l : List Ch} {ob : Bool} (h : Ow A0 F0 W L) (hi : L[i]? = some (Res.row eiK v es)) (hd : ∀ x ∈ es, DOk W x) (hl : es.length ≤ 1000) (h1 : loP es 1 = l) (h2 : opP es 1 = ob) (h3 : opP es 2 = false) :
    Calls Try.prog 12 #[v] W fun e W' => ∃ (f7 : Nat) (A7 : Nat → Option Addr) (n7 c7 : Nat → Nat) (o7 : Nat → Bool), e = .returned (.agg #[.int .u64 (f7 : Int), .slice (A7 0) (n7 0) (c7 0), .slice (A7 1) l.length (c7 1), .slice (A7 2) (n7 2) (c7 2), .slice (A7 3) (n7 3) (c7 3), .bool (o7 0), .bool ob, .bool false, .bool (o7 3)]) ∧ Ow A0 F0 W' (L ++ [Res.kins chK 1 (fun _ => .slice (A7 1) l.length (c7 1)) (fun _ => l)]) ∧ Hid (Below W.heap.size W W') := by
  refine (an_any HAN (h.krow hi) hd hl).mono ?_
  rintro e W' ⟨A, c, rfl, hb, hk⟩
  refine ⟨frP es, A, fun t => (loP es t).length, c, opP es, ?_, h.push hb (fun t _ => by have := hk 1 (by decide); rw [h1] at this; exact this), hide hb⟩
  unfold planC
  dsimp only
  rw [h1, h2, h3]
theorem an_p2 (HAN : AnSaid) {A0 W : World} {F0 : Nat → Prop} {L : List Res} {i : Nat} {v : Value} {es : List Ei} {l : List Ch} {ob : Bool} (h : Ow A0 F0 W L) (hi : L[i]? = some (Res.row eiK v es)) (hd : ∀ x ∈ es, DOk W x) (hl : es.length ≤ 1000) (h1 : loP es 2 = l) (h2 : opP es 2 = ob) :
    Calls Try.prog 12 #[v] W fun e W' => ∃ (f5 : Nat) (A5 : Nat → Option Addr) (n5 c5 : Nat → Nat) (o5 : Nat → Bool), e = .returned (.agg #[.int .u64 (f5 : Int), .slice (A5 0) (n5 0) (c5 0), .slice (A5 1) (n5 1) (c5 1), .slice (A5 2) l.length (c5 2), .slice (A5 3) (n5 3) (c5 3), .bool (o5 0), .bool (o5 1), .bool ob, .bool (o5 3)]) ∧ Ow A0 F0 W' (L ++ [Res.kins chK 1 (fun _ => .slice (A5 2) l.length (c5 2)) (fun _ => l)]) ∧ Hid (Below W.heap.size W W') := by
  refine (an_any HAN (h.krow hi) hd hl).mono ?_
  rintro e W' ⟨A, c, rfl, hb, hk⟩
  refine ⟨frP es, A, fun t => (loP es t).length, c, opP es, ?_, h.push hb (fun t _ => by have := hk 2 (by decide); rw [h1] at this; exact this), hide hb⟩
  unfold planC
  dsimp only
  rw [h1, h2]
theorem an_q2 (HAN : AnSaid) {A0 W : World} {F0 : Nat → Prop} {L : List Res} {i : Nat} {v : Value} {es : List Ei} {l : List Ch} {ob : Bool} (h : Ow A0 F0 W L) (hi : L[i]? = some (Res.row eiK v es)) (hd : ∀ x ∈ es, DOk W x) (hl : es.length ≤ 1000) (h1 : loP es 2 = l) (h2 : opP es 2 = ob) (h3 : opP es 1 = false) :
    Calls Try.prog 12 #[v] W fun e W' => ∃ (f7 : Nat) (A7 : Nat → Option Addr) (n7 c7 : Nat → Nat) (o7 : Nat → Bool), e = .returned (.agg #[.int .u64 (f7 : Int), .slice (A7 0) (n7 0) (c7 0), .slice (A7 1) (n7 1) (c7 1), .slice (A7 2) l.length (c7 2), .slice (A7 3) (n7 3) (c7 3), .bool (o7 0), .bool false, .bool ob, .bool (o7 3)]) ∧ Ow A0 F0 W' (L ++ [Res.kins chK 1 (fun _ => .slice (A7 2) l.length (c7 2)) (fun _ => l)]) ∧ Hid (Below W.heap.size W W') := by
  refine (an_any HAN (h.krow hi) hd hl).mono ?_
  rintro e W' ⟨A, c, rfl, hb, hk⟩
  refine ⟨frP es, A, fun t => (loP es t).length, c, opP es, ?_, h.push hb (fun t _ => by have := hk 2 (by decide); rw [h1] at this; exact this), hide hb⟩
  unfold planC
  dsimp only
  rw [h1, h2, h3]
set_option maxHeartbeats 16000000 in
theorem parts_1 (HAN2 : Hid AnSaid) {v : Value} {l : List SeedD} {z : Int} {w : World} (HV : Hid (SeedRow w w.heap.size v l)) (hlb : lightB l = true) (hq : bits .and .i64 z 1 = 0) :
    Calls Try.prog 5 #[v, .int .i64 z] w fun e w' => e = .returned (.bool true) ∧ Below w.heap.size w w' := by
  have HL := hide (lightB_iff.1 hlb).1
  go_enter Try.func5, Try.ntmps5
  go_wp2_with (first
    | (go_at_call 9; (with_reducible refine (fit_any HAN2.out _).mono ?_); rintro e w1 ⟨rfl, hb1⟩; have HB := hide hb1; have HK1 := hide (light_any ((SeedRow.below HV.out hb1).more hb1.size)); clear hb1; rw [hlb] at HK1)
    | (go_at_call 10; (with_reducible refine HK1.out.mono ?_); rintro e w2 ⟨rfl, hb2⟩; clear HK1; have HB := hide (HB.out.trans (hb2.mono HB.out.size)); clear hb2; have HK2 := hide (entries_any ((SeedRow.below HV.out HB.out).more HB.out.size) HL.out))
    | (go_at_call 11; (with_reducible refine HK2.out.mono ?_); rintro e w3 ⟨u, es, rfl, hes, hs⟩; clear HK2; obtain ⟨Au, cu, rfl⟩ := (hs.krow (i := 0) rfl).form))
  have S0 := hide (hs.newrow eiK)
  have HLN := hide (show es.length ≤ 100 by rw [hes.len]; exact HL.out)
  clear hs hes
  go_loopw [6, 24] (fun u i wr => ∃ (j : Nat) (es' : List Ei), j ≤ es.length ∧ i = .int .i64 j ∧ Hid (Ow w2 (fun _ => False) wr [Res.row eiK (.slice Au es.length cu) es, Res.dirt es, Res.row eiK u es']) ∧ Hid (es' = ownE 1 (es.take j))) (fun _ i _ => es.length - (intOf i).toNat)
  case atStart => exact ⟨0, [], by omega, rfl, S0, hide rfl⟩
  case round =>
    clear S0
    obtain ⟨j, es', hj, rfl, hs, HO⟩ := hrel
    obtain ⟨A3, c3, rfl⟩ := (hs.out.krow (i := 2) rfl).form
    by_cases hlt : j < es.length
    · obtain ⟨x, hc⟩ : ∃ x, es[j]? = some x := ⟨_, List.getElem?_eq_getElem hlt⟩
      obtain ⟨b1, rfl, i0, i1, i2, i3, i4, i5, i6, i7, i8⟩ := hs.out.entry (i := 0) rfl hc
      have q0 : (0 : Int) ≤ (j : Int) := by omega
      have q1 : (j : Int) < (es.length : Int) := by omega
      have HLE : Hid (es'.length ≤ 100) := hide (by rw [HO.out]; have := ownE_len 1 (es.take j); have := HLN.out; rw [List.length_take] at *; omega)
      have HLT := hide (show j < es.length ∧ es.length ≤ 100 from ⟨hlt, HLN.out⟩)
      have HTK : Hid (es.take (j + 1) = es.take j ++ [x]) := hide (by rw [List.take_add_one, hc]; rfl)
      have qn : (es.length : Int) ≤ 100 := by have := HLN.out; omega
      clear hlt hc
      by_cases ht : x.r.t = 1
      · have g1 : ((x.r.t : Int) == 1) = true := by rw [ht]; rfl
        have HT := hide ht
        clear ht
        have SB := hide (hs.out.box 40 #[.int .i64 (x.r.k : Int), .int .i64 (x.r.t : Int), .int .i64 (x.r.p : Int), .int .i64 (x.r.s : Int), .string x.r.b, .string x.r.a, .string x.r.i, .slice x.A x.r.ds.length x.c, .int .u64 (x.pl : Int)])
        obtain ⟨v', w4, hrun, S9⟩ := Ow.addK (x := x) (cs := #[.int .i64 (x.r.k : Int), .int .i64 (x.r.t : Int), .int .i64 (x.r.p : Int), .int .i64 (x.r.s : Int), .string x.r.b, .string x.r.a, .string x.r.i, .slice x.A x.r.ds.length x.c, .int .u64 (x.pl : Int)]) SB.out (i := 2) rfl rfl (by have := HLE.out; omega) 25
        have e9 : (wr.alloc (.cells #[.int .i64 (x.r.k : Int), .int .i64 (x.r.t : Int), .int .i64 (x.r.p : Int), .int .i64 (x.r.s : Int), .string x.r.b, .string x.r.a, .string x.r.i, .slice x.A x.r.ds.length x.c, .int .u64 (x.pl : Int)] 40)).heap.size = wr.heap.size + 1 := by simp
        rw [e9] at hrun
        have HRUN := hide hrun
        have HE := hide (S9.take 3)
        clear hrun S9
        go_wp2_with (at_builtin; refine Lib.wpList_append_run _ rfl (.tmp 33) (.tmp 35) _ _ rfl _ _ rfl rfl _ _ HRUN.out ?_)
        go_roundw
        case rel => exact ⟨j + 1, _, by have := HLT.out; omega, by go_num, HE, hide (by rw [HTK.out, ownE_snoc, if_pos HT.out, HO.out])⟩
        case measure => simp [intOf]; have := HLT.out; omega
      · have g1 : ((x.r.t : Int) == 1) = false := by rw [beq_eq_false_iff_ne]; omega
        have HT := hide ht
        clear ht
        have SB := hide ((hs.out.box 40 #[.int .i64 (x.r.k : Int), .int .i64 (x.r.t : Int), .int .i64 (x.r.p : Int), .int .i64 (x.r.s : Int), .string x.r.b, .string x.r.a, .string x.r.i, .slice x.A x.r.ds.length x.c, .int .u64 (x.pl : Int)]).take 3)
        go_wp2
        go_roundw
        case rel => exact ⟨j + 1, es', by have := HLT.out; omega, by go_num, SB, hide (by rw [HTK.out, ownE_snoc, if_neg HT.out, HO.out])⟩
        case measure => simp [intOf]; have := HLT.out; omega
    · obtain rfl : j = es.length := by omega
      have HO2 : Hid (es' = ownE 1 es) := hide (by have := HO.out; rwa [List.take_length] at this)
      obtain ⟨l, hlo⟩ : ∃ l, loP es 1 = l := ⟨_, rfl⟩
      obtain ⟨ob, hop⟩ : ∃ ob, opP es 1 = ob := ⟨_, rfl⟩
      have HLL : Hid (l.length ≤ 100) := hide (by rw [← hlo]; exact Nat.le_trans (loP_length es 1) HLN.out)
      have HKA := hide (an_p1 HAN2.out hs.out (i := 0) rfl (hs.out.dirt (i := 1) rfl) (by have := HLN.out; omega) hlo hop)
      have HF : Hid (loP es' 1 = l ∧ opP es' 1 = ob ∧ opP es' 2 = false ∧ (∀ x ∈ es', x ∈ es) ∧ es'.length ≤ 1000) := hide (by
        rw [HO2.out]
        exact ⟨(ownE_lo 1 es).trans hlo, (ownE_op 1 es).trans hop, ownE_other (by decide) es, fun x hx => (List.mem_filter.1 hx).1, by have := ownE_len 1 es; have := HLN.out; omega⟩)
      clear hlt hj HO HO2 hlo hop
      go_upto_region 15 with (first
        | (go_at_call 12; (with_reducible refine HKA.out.mono ?_); rintro e w5 ⟨f5, A5, n5, c5, o5, rfl, h5, hb5⟩; clear HKA hb5
           have HKB := hide (an_q1 HAN2.out h5 (i := 2) rfl (fun x hx => h5.dirt (i := 1) rfl x (HF.out.2.2.2.1 x hx)) HF.out.2.2.2.2 HF.out.1 HF.out.2.1 HF.out.2.2.1); clear h5)
        | (go_at_call 12; (with_reducible refine HKB.out.mono ?_); rintro e w6 ⟨f7, A7, n7, c7, o7, rfl, h7, hb7⟩; clear HKB hb7; have S6 := hide h7; clear h7))
      have S7 : Hid (Ow w2 (fun _ => False) ((w6.alloc (.cells #[.int .u64 (f5 : Int), .slice (A5 0) (n5 0) (c5 0), .slice (A5 1) l.length (c5 1), .slice (A5 2) (n5 2) (c5 2), .slice (A5 3) (n5 3) (c5 3), .bool (o5 0), .bool ob, .bool (o5 2), .bool (o5 3)] 32)).alloc (.cells #[.int .u64 (f7 : Int), .slice (A7 0) (n7 0) (c7 0), .slice (A7 1) l.length (c7 1), .slice (A7 2) (n7 2) (c7 2), .slice (A7 3) (n7 3) (c7 3), .bool (o7 0), .bool ob, .bool false, .bool (o7 3)] 32)) ([Res.row eiK (.slice Au es.length cu) es, Res.dirt es, Res.row eiK (.slice A3 es'.length c3) es'] ++ [Res.kins chK 1 (fun _ => .slice (A5 1) l.length (c5 1)) (fun _ => l), Res.kins chK 1 (fun _ => .slice (A7 1) l.length (c7 1)) (fun _ => l), Res.blk w6.heap.size 32 #[.int .u64 (f5 : Int), .slice (A5 0) (n5 0) (c5 0), .slice (A5 1) l.length (c5 1), .slice (A5 2) (n5 2) (c5 2), .slice (A5 3) (n5 3) (c5 3), .bool (o5 0), .bool ob, .bool (o5 2), .bool (o5 3)], Res.blk (w6.heap.size + 1) 32 #[.int .u64 (f7 : Int), .slice (A7 0) (n7 0) (c7 0), .slice (A7 1) l.length (c7 1), .slice (A7 2) (n7 2) (c7 2), .slice (A7 3) (n7 3) (c7 3), .bool (o7 0), .bool ob, .bool false, .bool (o7 3)]])) := hide (by have := ((S6.out.box 32 #[.int .u64 (f5 : Int), .slice (A5 0) (n5 0) (c5 0), .slice (A5 1) l.length (c5 1), .slice (A5 2) (n5 2) (c5 2), .slice (A5 3) (n5 3) (c5 3), .bool (o5 0), .bool ob, .bool (o5 2), .bool (o5 3)]).box 32 #[.int .u64 (f7 : Int), .slice (A7 0) (n7 0) (c7 0), .slice (A7 1) l.length (c7 1), .slice (A7 2) (n7 2) (c7 2), .slice (A7 3) (n7 3) (c7 3), .bool (o7 0), .bool ob, .bool false, .bool (o7 3)]); simpa using this)
      clear S6 hs
      have HBX : Hid ((ob != ob) = false) := hide (by cases ob <;> rfl)
      obtain ⟨p0, p1, p2, p3, p4, p5, p6, p7, p8⟩ := (S7.out.blk (i := 5) rfl).nine
      obtain ⟨t0, t1, t2, t3, t4, t5, t6, t7, t8⟩ := (S7.out.blk (i := 6) rfl).nine
      have hbx := HBX.out
      go_quiet (fail)
      have S8 := hide (S7.out.below (below_drewN _ nq))
      clear S7 p0 p1 p2 p3 p4 p5 p6 p7 p8 t0 t1 t2 t3 t4 t5 t6 t7 t8
      obtain ⟨p0, p1, p2, p3, p4, p5, p6, p7, p8⟩ := (S8.out.blk (i := 5) rfl).nine
      go_wp2
      clear p0 p1 p2 p3 p4 p5 p6 p7 p8
      go_loopw [76] (fun i wr => ∃ j : Nat, j ≤ l.length ∧ i = .int .i64 j ∧ Hid (Ow w2 (fun _ => False) wr ([Res.row eiK (.slice Au es.length cu) es, Res.dirt es, Res.row eiK (.slice A3 es'.length c3) es'] ++ [Res.kins chK 1 (fun _ => .slice (A5 1) l.length (c5 1)) (fun _ => l), Res.kins chK 1 (fun _ => .slice (A7 1) l.length (c7 1)) (fun _ => l), Res.blk w6.heap.size 32 #[.int .u64 (f5 : Int), .slice (A5 0) (n5 0) (c5 0), .slice (A5 1) l.length (c5 1), .slice (A5 2) (n5 2) (c5 2), .slice (A5 3) (n5 3) (c5 3), .bool (o5 0), .bool ob, .bool (o5 2), .bool (o5 3)], Res.blk (w6.heap.size + 1) 32 #[.int .u64 (f7 : Int), .slice (A7 0) (n7 0) (c7 0), .slice (A7 1) l.length (c7 1), .slice (A7 2) (n7 2) (c7 2), .slice (A7 3) (n7 3) (c7 3), .bool (o7 0), .bool ob, .bool false, .bool (o7 3)]]))) (fun i _ => l.length - (intOf i).toNat)
      case atStart => exact ⟨0, by omega, rfl, S8⟩
      case round =>
        clear S8
        obtain ⟨j, hj, rfl, hs⟩ := hrel
        by_cases hlt : j < l.length
        · obtain ⟨x, hc⟩ : ∃ x, l[j]? = some x := ⟨_, List.getElem?_eq_getElem hlt⟩
          obtain ⟨Ap, cp, ep, hp⟩ := hs.out.loser (i := 3) rfl (t := 0) (by decide)
          obtain ⟨Aq, cq, eq, hqq⟩ := hs.out.loser (i := 4) rfl (t := 0) (by decide)
          obtain ⟨bp, op, rfl, hp2⟩ := hp (by show 0 < l.length; omega)
          obtain ⟨bq, oq, rfl, hq2⟩ := hqq (by show 0 < l.length; omega)
          obtain ⟨x0, x1, x2⟩ := hp2 j x hc
          obtain ⟨y0, y1, y2⟩ := hq2 j x hc
          injection ep with ep1 _ _
          injection eq with eq1 _ _
          obtain ⟨p0, p1, p2, p3, p4, p5, p6, p7, p8⟩ := (hs.out.blk (i := 5) rfl).nine
          obtain ⟨t0, t1, t2, t3, t4, t5, t6, t7, t8⟩ := (hs.out.blk (i := 6) rfl).nine
          rw [ep1] at p2
          rw [eq1] at t2
          have q0 : (0 : Int) ≤ (j : Int) := by omega
          have q1 : (j : Int) < (l.length : Int) := by omega
          have ql : (l.length : Int) ≤ 100 := by have := HLL.out; omega
          have HLT := hide (show j < l.length from hlt)
          clear hlt hc hp hqq hp2 hq2 ep1 eq1
          go_upto_region 20 with (fail)
          go_quiet (fail)
          go_wp2
          go_roundw
          case rel => exact ⟨j + 1, by have := HLT.out; omega, by go_num, hide (hs.out.below (below_drewN _ nq))⟩
          case measure => simp [intOf]; have := HLT.out; omega
        · obtain rfl : j = l.length := by omega
          clear hlt hj
          go_wp2
          go_ret
          exact ⟨rfl, HB.out.trans (hs.out.bel.mono HB.out.size)⟩
set_option maxHeartbeats 16000000 in
theorem parts_2 (HAN2 : Hid AnSaid) {v : Value} {l : List SeedD} {z : Int} {w : World} (HV : Hid (SeedRow w w.heap.size v l)) (hlb : lightB l = true) (hq : bits .and .i64 z 1 = 1) :
    Calls Try.prog 5 #[v, .int .i64 z] w fun e w' => e = .returned (.bool true) ∧ Below w.heap.size w w' := by
  have HL := hide (lightB_iff.1 hlb).1
  go_enter Try.func5, Try.ntmps5
  go_wp2_with (first
    | (go_at_call 9; (with_reducible refine (fit_any HAN2.out _).mono ?_); rintro e w1 ⟨rfl, hb1⟩; have HB := hide hb1; have HK1 := hide (light_any ((SeedRow.below HV.out hb1).more hb1.size)); clear hb1; rw [hlb] at HK1)
    | (go_at_call 10; (with_reducible refine HK1.out.mono ?_); rintro e w2 ⟨rfl, hb2⟩; clear HK1; have HB := hide (HB.out.trans (hb2.mono HB.out.size)); clear hb2; have HK2 := hide (entries_any ((SeedRow.below HV.out HB.out).more HB.out.size) HL.out))
    | (go_at_call 11; (with_reducible refine HK2.out.mono ?_); rintro e w3 ⟨u, es, rfl, hes, hs⟩; clear HK2; obtain ⟨Au, cu, rfl⟩ := (hs.krow (i := 0) rfl).form))
  have S0 := hide (hs.newrow eiK)
  have HLN := hide (show es.length ≤ 100 by rw [hes.len]; exact HL.out)
  clear hs hes
  go_loopw [6, 24] (fun u i wr => ∃ (j : Nat) (es' : List Ei), j ≤ es.length ∧ i = .int .i64 j ∧ Hid (Ow w2 (fun _ => False) wr [Res.row eiK (.slice Au es.length cu) es, Res.dirt es, Res.row eiK u es']) ∧ Hid (es' = ownE 2 (es.take j))) (fun _ i _ => es.length - (intOf i).toNat)
  case atStart => exact ⟨0, [], by omega, rfl, S0, hide rfl⟩
  case round =>
    clear S0
    obtain ⟨j, es', hj, rfl, hs, HO⟩ := hrel
    obtain ⟨A3, c3, rfl⟩ := (hs.out.krow (i := 2) rfl).form
    by_cases hlt : j < es.length
    · obtain ⟨x, hc⟩ : ∃ x, es[j]? = some x := ⟨_, List.getElem?_eq_getElem hlt⟩
      obtain ⟨b1, rfl, i0, i1, i2, i3, i4, i5, i6, i7, i8⟩ := hs.out.entry (i := 0) rfl hc
      have q0 : (0 : Int) ≤ (j : Int) := by omega
      have q1 : (j : Int) < (es.length : Int) := by omega
      have HLE : Hid (es'.length ≤ 100) := hide (by rw [HO.out]; have := ownE_len 2 (es.take j); have := HLN.out; rw [List.length_take] at *; omega)
      have HLT := hide (show j < es.length ∧ es.length ≤ 100 from ⟨hlt, HLN.out⟩)
      have HTK : Hid (es.take (j + 1) = es.take j ++ [x]) := hide (by rw [List.take_add_one, hc]; rfl)
      have qn : (es.length : Int) ≤ 100 := by have := HLN.out; omega
      clear hlt hc
      by_cases ht : x.r.t = 2
      · have g1 : ((x.r.t : Int) == 2) = true := by rw [ht]; rfl
        have HT := hide ht
        clear ht
        have SB := hide (hs.out.box 40 #[.int .i64 (x.r.k : Int), .int .i64 (x.r.t : Int), .int .i64 (x.r.p : Int), .int .i64 (x.r.s : Int), .string x.r.b, .string x.r.a, .string x.r.i, .slice x.A x.r.ds.length x.c, .int .u64 (x.pl : Int)])
        obtain ⟨v', w4, hrun, S9⟩ := Ow.addK (x := x) (cs := #[.int .i64 (x.r.k : Int), .int .i64 (x.r.t : Int), .int .i64 (x.r.p : Int), .int .i64 (x.r.s : Int), .string x.r.b, .string x.r.a, .string x.r.i, .slice x.A x.r.ds.length x.c, .int .u64 (x.pl : Int)]) SB.out (i := 2) rfl rfl (by have := HLE.out; omega) 25
        have e9 : (wr.alloc (.cells #[.int .i64 (x.r.k : Int), .int .i64 (x.r.t : Int), .int .i64 (x.r.p : Int), .int .i64 (x.r.s : Int), .string x.r.b, .string x.r.a, .string x.r.i, .slice x.A x.r.ds.length x.c, .int .u64 (x.pl : Int)] 40)).heap.size = wr.heap.size + 1 := by simp
        rw [e9] at hrun
        have HRUN := hide hrun
        have HE := hide (S9.take 3)
        clear hrun S9
        go_wp2_with (at_builtin; refine Lib.wpList_append_run _ rfl (.tmp 33) (.tmp 35) _ _ rfl _ _ rfl rfl _ _ HRUN.out ?_)
        go_roundw
        case rel => exact ⟨j + 1, _, by have := HLT.out; omega, by go_num, HE, hide (by rw [HTK.out, ownE_snoc, if_pos HT.out, HO.out])⟩
        case measure => simp [intOf]; have := HLT.out; omega
      · have g1 : ((x.r.t : Int) == 2) = false := by rw [beq_eq_false_iff_ne]; omega
        have HT := hide ht
        clear ht
        have SB := hide ((hs.out.box 40 #[.int .i64 (x.r.k : Int), .int .i64 (x.r.t : Int), .int .i64 (x.r.p : Int), .int .i64 (x.r.s : Int), .string x.r.b, .string x.r.a, .string x.r.i, .slice x.A x.r.ds.length x.c, .int .u64 (x.pl : Int)]).take 3)
        go_wp2
        go_roundw
        case rel => exact ⟨j + 1, es', by have := HLT.out; omega, by go_num, SB, hide (by rw [HTK.out, ownE_snoc, if_neg HT.out, HO.out])⟩
        case measure => simp [intOf]; have := HLT.out; omega
    · obtain rfl : j = es.length := by omega
      have HO2 : Hid (es' = ownE 2 es) := hide (by have := HO.out; rwa [List.take_length] at this)
      obtain ⟨l, hlo⟩ : ∃ l, loP es 2 = l := ⟨_, rfl⟩
      obtain ⟨ob, hop⟩ : ∃ ob, opP es 2 = ob := ⟨_, rfl⟩
      have HLL : Hid (l.length ≤ 100) := hide (by rw [← hlo]; exact Nat.le_trans (loP_length es 2) HLN.out)
      have HKA := hide (an_p2 HAN2.out hs.out (i := 0) rfl (hs.out.dirt (i := 1) rfl) (by have := HLN.out; omega) hlo hop)
      have HF : Hid (loP es' 2 = l ∧ opP es' 2 = ob ∧ opP es' 1 = false ∧ (∀ x ∈ es', x ∈ es) ∧ es'.length ≤ 1000) := hide (by
        rw [HO2.out]
        exact ⟨(ownE_lo 2 es).trans hlo, (ownE_op 2 es).trans hop, ownE_other (by decide) es, fun x hx => (List.mem_filter.1 hx).1, by have := ownE_len 2 es; have := HLN.out; omega⟩)
      clear hlt hj HO HO2 hlo hop
      go_upto_region 15 with (first
        | (go_at_call 12; (with_reducible refine HKA.out.mono ?_); rintro e w5 ⟨f5, A5, n5, c5, o5, rfl, h5, hb5⟩; clear HKA hb5
           have HKB := hide (an_q2 HAN2.out h5 (i := 2) rfl (fun x hx => h5.dirt (i := 1) rfl x (HF.out.2.2.2.1 x hx)) HF.out.2.2.2.2 HF.out.1 HF.out.2.1 HF.out.2.2.1); clear h5)
        | (go_at_call 12; (with_reducible refine HKB.out.mono ?_); rintro e w6 ⟨f7, A7, n7, c7, o7, rfl, h7, hb7⟩; clear HKB hb7; have S6 := hide h7; clear h7))
      have S7 : Hid (Ow w2 (fun _ => False) ((w6.alloc (.cells #[.int .u64 (f5 : Int), .slice (A5 0) (n5 0) (c5 0), .slice (A5 1) (n5 1) (c5 1), .slice (A5 2) l.length (c5 2), .slice (A5 3) (n5 3) (c5 3), .bool (o5 0), .bool (o5 1), .bool ob, .bool (o5 3)] 32)).alloc (.cells #[.int .u64 (f7 : Int), .slice (A7 0) (n7 0) (c7 0), .slice (A7 1) (n7 1) (c7 1), .slice (A7 2) l.length (c7 2), .slice (A7 3) (n7 3) (c7 3), .bool (o7 0), .bool false, .bool ob, .bool (o7 3)] 32)) ([Res.row eiK (.slice Au es.length cu) es, Res.dirt es, Res.row eiK (.slice A3 es'.length c3) es'] ++ [Res.kins chK 1 (fun _ => .slice (A5 2) l.length (c5 2)) (fun _ => l), Res.kins chK 1 (fun _ => .slice (A7 2) l.length (c7 2)) (fun _ => l), Res.blk w6.heap.size 32 #[.int .u64 (f5 : Int), .slice (A5 0) (n5 0) (c5 0), .slice (A5 1) (n5 1) (c5 1), .slice (A5 2) l.length (c5 2), .slice (A5 3) (n5 3) (c5 3), .bool (o5 0), .bool (o5 1), .bool ob, .bool (o5 3)], Res.blk (w6.heap.size + 1) 32 #[.int .u64 (f7 : Int), .slice (A7 0) (n7 0) (c7 0), .slice (A7 1) (n7 1) (c7 1), .slice (A7 2) l.length (c7 2), .slice (A7 3) (n7 3) (c7 3), .bool (o7 0), .bool false, .bool ob, .bool (o7 3)]])) := hide (by have := ((S6.out.box 32 #[.int .u64 (f5 : Int), .slice (A5 0) (n5 0) (c5 0), .slice (A5 1) (n5 1) (c5 1), .slice (A5 2) l.length (c5 2), .slice (A5 3) (n5 3) (c5 3), .bool (o5 0), .bool (o5 1), .bool ob, .bool (o5 3)]).box 32 #[.int .u64 (f7 : Int), .slice (A7 0) (n7 0) (c7 0), .slice (A7 1) (n7 1) (c7 1), .slice (A7 2) l.length (c7 2), .slice (A7 3) (n7 3) (c7 3), .bool (o7 0), .bool false, .bool ob, .bool (o7 3)]); simpa using this)
      clear S6 hs
      have HBX : Hid ((ob != ob) = false) := hide (by cases ob <;> rfl)
      obtain ⟨p0, p1, p2, p3, p4, p5, p6, p7, p8⟩ := (S7.out.blk (i := 5) rfl).nine
      obtain ⟨t0, t1, t2, t3, t4, t5, t6, t7, t8⟩ := (S7.out.blk (i := 6) rfl).nine
      have hbx := HBX.out
      go_quiet (fail)
      have S8 := hide (S7.out.below (below_drewN _ nq))
      clear S7 p0 p1 p2 p3 p4 p5 p6 p7 p8 t0 t1 t2 t3 t4 t5 t6 t7 t8
      obtain ⟨p0, p1, p2, p3, p4, p5, p6, p7, p8⟩ := (S8.out.blk (i := 5) rfl).nine
      go_wp2
      clear p0 p1 p2 p3 p4 p5 p6 p7 p8
      go_loopw [76] (fun i wr => ∃ j : Nat, j ≤ l.length ∧ i = .int .i64 j ∧ Hid (Ow w2 (fun _ => False) wr ([Res.row eiK (.slice Au es.length cu) es, Res.dirt es, Res.row eiK (.slice A3 es'.length c3) es'] ++ [Res.kins chK 1 (fun _ => .slice (A5 2) l.length (c5 2)) (fun _ => l), Res.kins chK 1 (fun _ => .slice (A7 2) l.length (c7 2)) (fun _ => l), Res.blk w6.heap.size 32 #[.int .u64 (f5 : Int), .slice (A5 0) (n5 0) (c5 0), .slice (A5 1) (n5 1) (c5 1), .slice (A5 2) l.length (c5 2), .slice (A5 3) (n5 3) (c5 3), .bool (o5 0), .bool (o5 1), .bool ob, .bool (o5 3)], Res.blk (w6.heap.size + 1) 32 #[.int .u64 (f7 : Int), .slice (A7 0) (n7 0) (c7 0), .slice (A7 1) (n7 1) (c7 1), .slice (A7 2) l.length (c7 2), .slice (A7 3) (n7 3) (c7 3), .bool (o7 0), .bool false, .bool ob, .bool (o7 3)]]))) (fun i _ => l.length - (intOf i).toNat)
      case atStart => exact ⟨0, by omega, rfl, S8⟩
      case round =>
        clear S8
        obtain ⟨j, hj, rfl, hs⟩ := hrel
        by_cases hlt : j < l.length
        · obtain ⟨x, hc⟩ : ∃ x, l[j]? = some x := ⟨_, List.getElem?_eq_getElem hlt⟩
          obtain ⟨Ap, cp, ep, hp⟩ := hs.out.loser (i := 3) rfl (t := 0) (by decide)
          obtain ⟨Aq, cq, eq, hqq⟩ := hs.out.loser (i := 4) rfl (t := 0) (by decide)
          obtain ⟨bp, op, rfl, hp2⟩ := hp (by show 0 < l.length; omega)
          obtain ⟨bq, oq, rfl, hq2⟩ := hqq (by show 0 < l.length; omega)
          obtain ⟨x0, x1, x2⟩ := hp2 j x hc
          obtain ⟨y0, y1, y2⟩ := hq2 j x hc
          injection ep with ep1 _ _
          injection eq with eq1 _ _
          obtain ⟨p0, p1, p2, p3, p4, p5, p6, p7, p8⟩ := (hs.out.blk (i := 5) rfl).nine
          obtain ⟨t0, t1, t2, t3, t4, t5, t6, t7, t8⟩ := (hs.out.blk (i := 6) rfl).nine
          rw [ep1] at p3
          rw [eq1] at t3
          have q0 : (0 : Int) ≤ (j : Int) := by omega
          have q1 : (j : Int) < (l.length : Int) := by omega
          have ql : (l.length : Int) ≤ 100 := by have := HLL.out; omega
          have HLT := hide (show j < l.length from hlt)
          clear hlt hc hp hqq hp2 hq2 ep1 eq1
          go_upto_region 20 with (fail)
          go_quiet (fail)
          go_wp2
          go_roundw
          case rel => exact ⟨j + 1, by have := HLT.out; omega, by go_num, hide (hs.out.below (below_drewN _ nq))⟩
          case measure => simp [intOf]; have := HLT.out; omega
        · obtain rfl : j = l.length := by omega
          clear hlt hj
          go_wp2
          go_ret
          exact ⟨rfl, HB.out.trans (hs.out.bel.mono HB.out.size)⟩
set_option maxHeartbeats 4000000 in
theorem parts_walk (HAN : AnSaid) (v : Value) (l : List SeedD) (z : Int) (w : World) (hv : SeedRow w w.heap.size v l) : Calls Try.prog 5 #[v, .int .i64 z] w fun e w' => e = .returned (.bool true) ∧ Below w.heap.size w w' := by
  have HAN2 := hide HAN
  clear HAN
  have HV := hide hv
  clear hv
  cases hlb : lightB l with
  | false =>
    go_enter Try.func5, Try.ntmps5
    go_wp2_with (first
      | (go_at_call 9; (with_reducible refine (fit_any HAN2.out _).mono ?_); rintro e w1 ⟨rfl, hb1⟩; have HB := hide hb1; have HK1 := hide (light_any ((SeedRow.below HV.out hb1).more hb1.size)); clear hb1; rw [hlb] at HK1)
      | (go_at_call 10; (with_reducible refine HK1.out.mono ?_); rintro e w2 ⟨rfl, hb2⟩; clear HK1; have HB := hide (HB.out.trans (hb2.mono HB.out.size)); clear hb2))
    go_ret
    exact ⟨rfl, HB.out⟩
  | true =>
    obtain ⟨m, hm, hq⟩ := and_low z 1 (by omega)
    obtain rfl | rfl : m = 0 ∨ m = 1 := by omega
    · exact parts_1 HAN2 HV hlb hq
    · exact parts_2 HAN2 HV hlb hq
end Go.Proofs.Ytoifghofkjomnaa
