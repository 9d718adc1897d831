/-
  What 'size' says; a lane's length, read from memory.
-/
import Derived.Test.YtlmoiepbnnfebaaLd
namespace Go.Proofs.Ytlmoiepbnnfebaa
open Go.RowKit
set_option maxRecDepth 20000
set_option linter.unusedSimpArgs false
set_option linter.unusedVariables false

set_option maxHeartbeats 8000000 in
theorem size_any {w : World} {Z : Nat → Prop} {v : Value} {rs : List Rc} (hv : RecsAt w Z v rs) (ha : ∀ r ∈ rs, r.Ok) (hl : rs.length ≤ 10000) :
    Calls Try.prog 18 #[v] w fun e w' => e = .returned (.int .i64 ((frsR rs).length : Int)) ∧ Below w.heap.size w w' := by
  obtain ⟨A, cap, rfl, _⟩ := hv.form
  have HV := hide hv
  have HA := hide ha
  clear hv ha
  go_enter Try.func18, Try.ntmps18
  go_wp2
  go_loopw [3, 8] (fun u i wr => ∃ j L : Nat, j ≤ rs.length ∧ i = .int .i64 j ∧ u = .int .i64 L ∧ (frsR (rs.take j)).length = L ∧ Below w.heap.size w wr) (fun _ i _ => rs.length - (intOf i).toNat)
  case atStart => exact ⟨0, 0, by omega, rfl, rfl, by simp [frsR], Below.refl _ _⟩
  case round =>
    obtain ⟨j, L, hj, rfl, rfl, hL, hb⟩ := hrel
    by_cases hlt : j < rs.length
    · obtain ⟨r, hr⟩ : ∃ r, rs[j]? = some r := ⟨_, List.getElem?_eq_getElem hlt⟩
      obtain ⟨b, o1, rfl, hba, _, Aa, ca, hrga, hda⟩ := (HV.out.below hb).get hr
      have HRG := hide hrga
      have XIR := hide infoRec
      have HD := hide (hda.rd.alloc (.cells #[.int .i64 (r.k : Int), .int .i64 (r.t : Int), .int .i64 (r.p : Int), .int .i64 (r.s : Int), .string r.b, .string r.a, .string r.i, .slice Aa r.ds.length ca] 33))
      have HO := hide (HA.out r (List.mem_of_getElem? hr))
      have HB5 := hide (hb.alloc hb.size (.cells #[.int .i64 (r.k : Int), .int .i64 (r.t : Int), .int .i64 (r.p : Int), .int .i64 (r.s : Int), .string r.b, .string r.a, .string r.i, .slice Aa r.ds.length ca] 33))
      have hL2 := frs_le (n := 10000) (l := rs.take j) (fun q hq => HA.out q (List.mem_of_mem_take hq)) (by rw [List.length_take]; omega)
      rw [hL] at hL2
      have hL3 : (L : Int) ≤ 4000000 := by omega
      have hfm := HO.out.most
      have hfi : ((r.frame.length : Nat) : Int) ≤ 395 := by omega
      have hj0 : (0 : Int) ≤ (j : Int) := by omega
      have hj1 : (j : Int) < (rs.length : Int) := by omega
      have HS := hide (show (frsR (rs.take (j + 1))).length = L + r.frame.length by rw [frsR_succ hr, List.length_append, hL])
      clear hrga hda hb hba hfm hL2 hr hL
      go_wp2_with (first
        | ((with_reducible refine wpList_load_mid rfl 33 (.tmp 10) rfl b (o1 + j * 8) rfl [.int .i64 (r.k : Int), .int .i64 (r.t : Int), .int .i64 (r.p : Int), .int .i64 (r.s : Int), .string r.b, .string r.a, .string r.i, .slice Aa r.ds.length ca] _ ?_ Try.underlying33 ?_ ?_ ?_); exact HRG.out; rfl; exact XIR.out)
        | (go_at_call 19; ((with_reducible refine (enc_told r Aa ca _ HO.out HD.out).mono ?_); rintro e w7 ⟨A7, c7, rfl, m7, hb7⟩; have B7 := hide (HB5.out.trans (hb7.mono HB5.out.size)); clear m7 hb7)))
      go_roundw
      case rel => exact ⟨j + 1, _, by omega, by go_num, by rw [HS.out]; go_num, rfl, B7.out⟩
      case measure => simp [intOf]; omega
    · obtain rfl : j = rs.length := by omega
      rw [List.take_length] at hL
      have HL := hide hL
      have HB := hide hb
      clear hL hb
      go_wp2
      go_ret
      rw [HL.out]
      exact ⟨rfl, HB.out⟩
/-- A lane's length, read from memory. -/
def lenAt (w : World) (g : Nat) : Nat := (match w.cell? ⟨g, 4, none⟩ with | some (.int _ f) => f.toNat | _ => 0) * 56 + (match w.cell? ⟨g, 5, none⟩ with | some (.slice _ n _) => n | _ => 0)
theorem Live.lenAt {w : World} {X : Nat → Prop} {dg g r n k gen s : Nat} {up : Bool} {all : List Rc} (h : Live w X dg g r n k gen up all s) : lenAt w g = (frsR all).length := by
  obtain ⟨d, l, kv, gr, h1, _, h3, _⟩ := h
  obtain ⟨A, c, rfl, _⟩ := h1.kept
  have c4 := h1.blk.cell 4 (.int .i64 (l.first : Int)) rfl
  have c5 := h1.blk.cell 5 (.slice A l.kept.length c) rfl
  unfold Go.Proofs.Ytlmoiepbnnfebaa.lenAt
  rw [c4, c5]
  rw [← h3.len]
  show (l.first : Int).toNat * 56 + l.kept.length = l.first * 56 + l.kept.length
  rw [Int.toNat_natCast]
theorem sz_alloc (w : World) (o : Obj) : (w.alloc o).heap.size = w.heap.size + 1 := by simp
theorem Blk.rng {w : World} {g : Nat} {t : TypeId} {cs : Array Value} (h : Blk w g t cs) : w.rangeAt g 0 cs.toList := fun j u hu => by
  rw [Nat.zero_add]
  exact h.cell j u (by simpa using hu)
end Go.Proofs.Ytlmoiepbnnfebaa
