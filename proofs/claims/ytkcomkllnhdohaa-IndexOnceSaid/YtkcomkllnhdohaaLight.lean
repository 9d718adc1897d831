/-
  The law's own 'light' and 'name'.
-/
import Derived.Test.YtkcomkllnhdohaaFit9
namespace Go.Proofs.Ytkcomkllnhdohaa
open Go.RowKit Go.Shelf
set_option linter.unusedSimpArgs false
set_option linter.unusedVariables false

def ICall.light (c : ICall) : Bool := decide (c.it.key.size + c.it.val.size ≤ 100)
/-- Are calls few, with short keys? -/
def lightB (cs : List ICall) : Bool := decide (cs.length ≤ 120) && cs.all ICall.light
theorem lightB_few {cs : List ICall} (h : lightB cs = true) : cs.length ≤ 120 := by
  unfold lightB at h
  simp only [Bool.and_eq_true, decide_eq_true_eq] at h
  exact h.1
theorem lightB_all {cs : List ICall} (h : lightB cs = true) : ∀ c ∈ cs, c.it.key.size + c.it.val.size ≤ 100 := by
  unfold lightB at h
  simp only [Bool.and_eq_true, decide_eq_true_eq, List.all_eq_true] at h
  intro c hc
  have := h.2 c hc
  unfold ICall.light at this
  simpa using this
theorem ICallRow.below {w w' : World} {B : Nat} {v : Value} {cs : List ICall} (h : ICallRow w B v cs) (hb : Below B w w') : ICallRow w' B v cs := by
  obtain ⟨⟨A, c, e, hc, h1⟩, h2⟩ := h
  refine ⟨⟨A, c, e, hc, fun hn => ?_⟩, h2⟩
  obtain ⟨b, o, e2, hb2, h3⟩ := h1 hn
  exact ⟨b, o, e2, hb2, fun j x hj i u hu => (hb.cell (p := ⟨b, o + j * 6 + i, none⟩) hb2).trans (h3 j x hj i u hu)⟩
theorem ICallRow.more {w : World} {B B' : Nat} {v : Value} {cs : List ICall} (h : ICallRow w B v cs) (hb : B ≤ B') : ICallRow w B' v cs := by
  obtain ⟨⟨A, c, e, hc, h1⟩, h2⟩ := h
  refine ⟨⟨A, c, e, hc, fun hn => ?_⟩, h2⟩
  obtain ⟨b, o, e2, hb2, h3⟩ := h1 hn
  exact ⟨b, o, e2, by omega, h3⟩
/-- Call k, once the slice is known to be one. -/
theorem icall_cells {w wr : World} {B k n cap : Nat} {A : Option Addr} {cs : List ICall} {c : ICall} (hv : ICallRow w B (.slice A n cap) cs) (hb : Below B w wr) (hk : cs[k]? = some c) : n = cs.length ∧ ∃ b o, A = some ⟨b, o, none⟩ ∧
    (wr.cell? ⟨b, o + k * 6, none⟩ = some (.int .i64 c.k) ∧ wr.cell? ⟨b, o + k * 6 + 1, none⟩ = some (.int .i64 c.it.t) ∧ wr.cell? ⟨b, o + k * 6 + 2, none⟩ = some (.string c.it.key) ∧ wr.cell? ⟨b, o + k * 6 + 3, none⟩ = some (.string c.it.val) ∧ wr.cell? ⟨b, o + k * 6 + 4, none⟩ = some (.int .i64 c.it.p) ∧ wr.cell? ⟨b, o + k * 6 + 5, none⟩ = some (.int .i64 c.it.s)) ∧ (Lit.int .i64 c.k).wf = true ∧ c.it.Ok := by
  have hlt : k < cs.length := (List.getElem?_eq_some_iff.1 hk).1
  have he : cs[k] = c := (List.getElem?_eq_some_iff.1 hk).2
  obtain ⟨b, o, cap', e, hr, hok⟩ := icall_at hv hb hlt
  rw [he] at hr hok
  injection e with e1 e2 e3
  exact ⟨e2, b, o, e1, ⟨hr 0 _ rfl, hr 1 _ rfl, hr 2 _ rfl, hr 3 _ rfl, hr 4 _ rfl, hr 5 _ rfl⟩, (hv.2 c (List.mem_of_getElem? hk)).1, hok⟩
set_option maxRecDepth 20000 in
set_option maxHeartbeats 2000000 in
theorem light_any {w : World} {v : Value} {cs : List ICall} (hv : ICallRow w w.heap.size v cs) : Calls Try.prog 11 #[v] w fun e w' => e = .returned (.bool (lightB cs)) ∧ Below w.heap.size w w' := by
  obtain ⟨⟨A0, cap, rfl, hlc, _⟩, _⟩ := id hv
  by_cases hlen : cs.length ≤ 120
  · have hl1 : ¬ (120 : Int) < (cs.length : Int) := by omega
    have HL : Hid (lightB cs = cs.all ICall.light) := hide (by unfold lightB; simp [hlen])
    have HV := hide hv
    clear hv
    go_enter Try.func11, Try.ntmps11
    go_wp2
    go_loopw [10] (fun i wr => ∃ k : Nat, k ≤ cs.length ∧ i = .int .i64 k ∧ Hid (∀ c ∈ cs.take k, c.light = true) ∧ Hid (Below w.heap.size w wr)) (fun i _ => cs.length - (intOf i).toNat)
    case atStart => exact ⟨0, by omega, rfl, hide (fun c hc => by simp at hc), hide (Below.refl _ _)⟩
    case round =>
      obtain ⟨k, hk, rfl, hall, hb⟩ := hrel
      by_cases hlt : k < cs.length
      · obtain ⟨c, hc⟩ : ∃ c, cs[k]? = some c := ⟨_, List.getElem?_eq_getElem hlt⟩
        obtain ⟨_, b, o, rfl, ⟨i0, i1, i2, i3, i4, i5⟩, _, hok⟩ := icall_cells HV.out hb.out hc
        have q0 : (0 : Int) ≤ (k : Int) := by omega
        have q1 : (k : Int) < (cs.length : Int) := by omega
        have hks := hok.key
        have hvs := hok.val
        have HT := hide (show cs.take (k + 1) = cs.take k ++ [c] by rw [List.take_add_one, hc]; rfl)
        have HLT := hide hlt
        have HM := hide (List.mem_of_getElem? hc)
        have HB2 := hide (hb.out.alloc hb.out.size (.cells #[.int .i64 c.k, .int .i64 c.it.t, .string c.it.key, .string c.it.val, .int .i64 c.it.p, .int .i64 c.it.s] 34))
        clear hok hlt hc
        by_cases hsum : c.it.key.size + c.it.val.size ≤ 100
        · have hl : ¬ (100 : Int) < (c.it.key.size : Int) + (c.it.val.size : Int) := by omega
          have HC := hide (show c.light = true by unfold ICall.light; simp [hsum])
          go_wp2
          go_roundw
          case rel => exact ⟨k + 1, by have := HLT.out; omega, by go_num, hide (fun d hd => by rw [HT.out] at hd; rcases List.mem_append.1 hd with h | h; exact hall.out d h; rw [List.mem_singleton.1 h]; exact HC.out), HB2⟩
          case measure => simp [intOf]; have := HLT.out; omega
        · have hl : (100 : Int) < (c.it.key.size : Int) + (c.it.val.size : Int) := by omega
          have HC := hide (show lightB cs = false by
            rw [HL.out]
            cases e : cs.all ICall.light
            · rfl
            · have := List.all_eq_true.1 e c HM.out
              unfold ICall.light at this
              simp [hsum] at this)
          go_wp2
          go_ret
          exact ⟨by rw [HC.out]; rfl, HB2.out⟩
      · obtain rfl : k = cs.length := by omega
        clear hlt
        have HC := hide (show lightB cs = true by rw [HL.out, List.all_eq_true]; intro c hc; exact hall.out c (by rw [List.take_length]; exact hc))
        go_wp2
        go_ret
        exact ⟨by rw [HC.out]; rfl, hb.out⟩
  · have hl1 : (120 : Int) < (cs.length : Int) := by omega
    have HL : Hid (lightB cs = false) := hide (by unfold lightB; simp [hlen])
    clear hv
    go_enter Try.func11, Try.ntmps11
    go_wp2
    go_ret
    exact ⟨by rw [HL.out]; rfl, Below.refl _ _⟩
end Go.Proofs.Ytkcomkllnhdohaa
