/-
  Contract of stage 12's entries: the records of seeds at rising places.
-/
import Derived.Test.YtoifghofkjomnaaLight12
namespace Go.Proofs.Ytoifghofkjomnaa
open Go.RowKit
set_option maxRecDepth 20000
set_option linter.unusedSimpArgs false
set_option linter.unusedVariables false

/-- The record of a seed, its number cut. -/
def rec12 (x : SeedD) : Rc := { seedR x with t := (seedR x).t % 8 }
theorem and7n (n : Nat) : bits .and .i64 (n : Int) 7 = ((n % 8 : Nat) : Int) := by
  have h1 : bits .and .i64 (n : Int) 7 = IntKind.i64.wrap (((BitVec.ofInt 64 (n : Int) &&& BitVec.ofInt 64 7).toNat : Int)) := rfl
  rw [h1, BitVec.toNat_and, BitVec.ofInt_natCast, BitVec.toNat_ofNat, show (BitVec.ofInt 64 7).toNat = 2 ^ 3 - 1 by decide, Nat.and_two_pow_sub_one_eq_mod]
  rw [IntKind.wrap_i64]
  omega
theorem seed_six (x : SeedD) : (seedR x).ds.length ≤ 6 := by
  show (if sK x.k = 7 ∧ 0 < x.ds.length then (x.ds ++ List.replicate 6 0).take 6 else []).length ≤ 6
  split
  · exact Nat.le_trans (List.length_take_le ..) (Nat.le_refl _)
  · exact Nat.zero_le _
/-- What they are, as data. -/
structure Es12 (l : List SeedD) (es : List Ei) : Prop where
  recs : es.map (·.r) = l.map rec12
  place : ∀ i x, es[i]? = some x → x.pl = 10 * i + 5
theorem Es12.len {l : List SeedD} {es : List Ei} (h : Es12 l es) : es.length = l.length := by
  have := congrArg List.length h.recs
  simpa using this
theorem Es12.snoc {l : List SeedD} {es : List Ei} {x : Ei} {s : SeedD} (h : Es12 l es) (h1 : x.r = rec12 s) (h2 : x.pl = 10 * es.length + 5) : Es12 (l ++ [s]) (es ++ [x]) := by
  refine ⟨by rw [List.map_append, List.map_append, h.recs, List.map_singleton, List.map_singleton, h1], fun i y hy => ?_⟩
  rcases Nat.lt_or_ge i es.length with hlt | hge
  · rw [List.getElem?_append_left hlt] at hy
    exact h.place i y hy
  · rw [List.getElem?_append_right hge] at hy
    have : i - es.length = 0 := by have := (List.getElem?_eq_some_iff.1 hy).1; simpa using this
    rw [this] at hy
    obtain rfl := Option.some.inj hy
    rw [h2, show i = es.length by omega]
/-- An entry more. -/
theorem entry_more {w w1 w2 : World} {Au Ad : Option Addr} {cu cd : Nat} {es : List Ei} {R : Res} {r : Rc} {t p : Int} {q : Rc} {pl : Nat} (h : Ow w (fun _ => False) w1 [Res.row eiK (.slice Au es.length cu) es, Res.dirt es, R]) (hl : es.length ≤ 100000) (hb : Below w1.heap.size w1 w2)
    (hd : Btw w2 w1.heap.size w2.heap.size (.slice Ad r.ds.length cd) (u64s r.ds)) (ht : t = (q.t : Int)) (hp : p = (pl : Int)) (hq : q = { r with t := q.t }) (h6 : r.ds.length ≤ 6) :
    ∃ v' w4, (Builtin.append_ #[25, 25] 25 #[.slice Au es.length cu, .slice (some ⟨w2.heap.size + 1, 0, none⟩) 1 1]).run Try.prog ((w2.alloc (.cells #[.int .i64 (r.k : Int), .int .i64 t, .int .i64 (r.p : Int), .int .i64 (r.s : Int), .string r.b, .string r.a, .string r.i, .slice Ad r.ds.length cd] 38)).alloc (.cells #[.int .i64 (r.k : Int), .int .i64 t, .int .i64 (r.p : Int), .int .i64 (r.s : Int), .string r.b, .string r.a, .string r.i, .slice Ad r.ds.length cd, .int .u64 p] 40)) = .ok v' w4 ∧
      Ow w (fun _ => False) w4 [Res.row eiK v' (es ++ [⟨q, pl, Ad, cd⟩]), Res.dirt (es ++ [⟨q, pl, Ad, cd⟩])] := by
  have hqd : q.ds = r.ds := by rw [hq]
  have hx : RIn w2 (fun k => w1.heap.size ≤ k) (Ei.dv ⟨q, pl, Ad, cd⟩) (u64s q.ds) := by
    unfold Ei.dv
    rw [hqd]
    exact (RIn.of_btw hd (Nat.le_refl _)).keep (fun _ _ _ => rfl) (Nat.le_refl _) (fun k _ hk => hk.1)
  have S1 := h.dirty (i := 1) (x := ⟨q, pl, Ad, cd⟩) rfl hb hx (by show q.ds.length ≤ 6; rw [hqd]; exact h6)
  have S2 := S1.box 38 #[.int .i64 (r.k : Int), .int .i64 t, .int .i64 (r.p : Int), .int .i64 (r.s : Int), .string r.b, .string r.a, .string r.i, .slice Ad r.ds.length cd]
  have S3 := S2.box 40 #[.int .i64 (r.k : Int), .int .i64 t, .int .i64 (r.p : Int), .int .i64 (r.s : Int), .string r.b, .string r.a, .string r.i, .slice Ad r.ds.length cd, .int .u64 p]
  have hB := S3.blk (i := 4) rfl
  have hcs : eiK.cells ⟨q, pl, Ad, cd⟩ = (#[.int .i64 (r.k : Int), .int .i64 t, .int .i64 (r.p : Int), .int .i64 (r.s : Int), .string r.b, .string r.a, .string r.i, .slice Ad r.ds.length cd, .int .u64 p] : Array Value).toList := by
    show Ei.cells _ = _
    unfold Ei.cells
    rw [hq, ht, hp]
  obtain ⟨v', w4, hrun, k1, k2, k3⟩ := run_append_k (K := eiK) (x := ⟨q, pl, Ad, cd⟩) (S3.krow (i := 0) rfl) hl (fun i u hi => hB.cell i u (by rw [← hi, hcs, ← Array.getElem?_toList])) (c := 1) 25
  have e1 : (w2.alloc (.cells #[.int .i64 (r.k : Int), .int .i64 t, .int .i64 (r.p : Int), .int .i64 (r.s : Int), .string r.b, .string r.a, .string r.i, .slice Ad r.ds.length cd] 38)).heap.size = w2.heap.size + 1 := by simp
  rw [e1] at hrun
  exact ⟨v', w4, hrun, (S3.appended (i := 0) rfl k1 k2 k3).take 2⟩
set_option maxHeartbeats 8000000 in
theorem entries_any {w : World} {v : Value} {l : List SeedD} (hv : SeedRow w w.heap.size v l) (hl : l.length ≤ 100) : Calls Try.prog 11 #[v] w fun e w' => ∃ u es, e = .returned u ∧ Es12 l es ∧ Ow w (fun _ => False) w' [Res.row eiK u es, Res.dirt es] := by
  obtain ⟨A0, cap, rfl, _⟩ := id hv
  have HV := hide hv
  clear hv
  go_enter Try.func11, Try.ntmps11
  have hl1 : (l.length : Int) ≤ 100 := by omega
  have HLEN := hide hl
  clear hl
  go_wp2
  go_loopw [3, 9] (fun u i wr => ∃ (j : Nat) (es : List Ei), j ≤ l.length ∧ i = .int .i64 j ∧ Hid (Ow w (fun _ => False) wr [Res.row eiK u es, Res.dirt es]) ∧ Hid (Es12 (l.take j) es)) (fun _ i _ => l.length - (intOf i).toNat)
  case atStart => exact ⟨0, [], by omega, rfl, hide ((Ow.start w).newrow eiK).nildirt, hide ⟨rfl, fun i x h => by simp at h⟩⟩
  case round =>
    obtain ⟨j, es, hj, rfl, hs, hes⟩ := hrel
    by_cases hlt : j < l.length
    · obtain ⟨x, hc⟩ : ∃ x, l[j]? = some x := ⟨_, List.getElem?_eq_getElem hlt⟩
      obtain ⟨b1, o1, rfl, A, n, c, hn, ⟨i0, i1, i2, i3, i4, i5, i6, i7⟩, hrow⟩ := seed_cells HV.out hs.out.bel hc
      have q0 : (0 : Int) ≤ (j : Int) := by omega
      have q1 : (j : Int) < (l.length : Int) := by omega
      have HLT := hide hlt
      have HTK : Hid (l.take (j + 1) = l.take j ++ [x]) := hide (by rw [List.take_add_one, hc]; rfl)
      have HSZ : Hid (es.length = j) := hide (by rw [hes.out.len, List.length_take]; omega)
      obtain ⟨Au, cu, rfl⟩ := (hs.out.krow (i := 0) rfl).form
      have SB := hide (hs.out.box 51 #[.int .i64 x.k, .int .i64 x.t, .int .i64 x.p, .int .i64 x.s, .int .u8 (x.b.toNat : Int), .int .u8 (x.a.toNat : Int), .int .u8 (x.i.toNat : Int), .slice A n c])
      obtain ⟨b0, b1', b2, b3, b4, b5, b6, b7⟩ := (SB.out.blk (i := 2) rfl).eight
      have HROW := hide (Rd.alloc (show Rd wr (.slice A n c) (u64s x.ds) from Row.more hrow hs.out.bel.size) (.cells #[.int .i64 x.k, .int .i64 x.t, .int .i64 x.p, .int .i64 x.s, .int .u8 (x.b.toNat : Int), .int .u8 (x.a.toNat : Int), .int .u8 (x.i.toNat : Int), .slice A n c] 51))
      have HK0 := hide (seed_any x A n c _ hn HROW.out)
      clear hrow hlt hc hn hs
      go_wp2_with (first
        | (go_at_call 15
           (with_reducible refine HK0.out.mono ?_)
           rintro e w2 ⟨Ad, cd, rfl, hd, hb⟩
           clear HK0
           obtain ⟨v', w4, hrun, S8⟩ := entry_more (q := rec12 x) (pl := 10 * j + 5) SB.out (by have := HSZ.out; have := HLT.out; have := HLEN.out; omega) hb hd (and7n (seedR x).t) (p := 10 * (j : Int) + 5) (by omega) rfl (seed_six x)
           have HRUN := hide hrun
           have HE := hide S8
           clear hrun S8 hd hb SB)
        | (at_builtin; refine Lib.wpList_append_run _ rfl (.tmp 20) (.tmp 27) _ _ rfl _ _ rfl rfl _ _ HRUN.out ?_))
      go_roundw
      case rel => exact ⟨j + 1, _, by have := HLT.out; omega, by go_num, HE, hide (by rw [HTK.out]; exact hes.out.snoc rfl (by rw [HSZ.out]))⟩
      case measure => simp [intOf]; have := HLT.out; omega
    · have q1 : ¬ (j : Int) < (l.length : Int) := by omega
      obtain ⟨Au, cu, rfl⟩ := (hs.out.krow (i := 0) rfl).form
      obtain rfl : j = l.length := by omega
      go_wp2
      go_ret
      refine ⟨_, rfl, es, by have := hes.out; rwa [List.take_length] at this, hs.out⟩
end Go.Proofs.Ytoifghofkjomnaa
