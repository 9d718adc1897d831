/-
  The walk of PackTexts.
-/
import Derived.Test.YtalojooicpkdhaaBack
import Derived.Test.YtalojooicpkdhaaStrs
namespace Go.Proofs.Ytalojooicpkdhaa
open Go.RowKit

/-- Texts as they are laid, one behind the other. -/
def flat (ls : List ByteArray) : List UInt8 := ls.flatMap fun s => laid s.data.toList
theorem flat_nil : flat [] = [] := rfl
theorem flat_snoc (ls : List ByteArray) (k : Nat) (h : k < ls.length) : flat (ls.take k) ++ laid (ls[k]).data.toList = flat (ls.take (k + 1)) := by
  rw [List.take_succ_eq_append_getElem h]
  simp only [flat, List.flatMap_append, List.flatMap_cons, List.flatMap_nil, List.append_nil]
theorem flat_cons (ls : List ByteArray) (k : Nat) (h : k < ls.length) : flat (ls.drop k) = laid (ls[k]).data.toList ++ flat (ls.drop (k + 1)) := by
  rw [List.drop_eq_getElem_cons h]
  simp only [flat, List.flatMap_cons]
theorem laid_length (s : ByteArray) : (laid s.data.toList).length = s.size + 1 := by
  have h1 : s.data.toList.length = s.size := Array.length_toList
  simp only [laid, List.length_cons]
  omega
theorem flat_le (ls : List ByteArray) (h : ∀ s ∈ ls, s.size ≤ 255) : (flat ls).length ≤ 256 * ls.length := by
  induction ls with
  | nil => simp [flat]
  | cons s ls ih =>
    have h1 := ih fun t ht => h t (by simp [ht])
    have h2 := h s (by simp)
    have h3 : flat (s :: ls) = laid s.data.toList ++ flat ls := by simp [flat]
    rw [h3, List.length_append, laid_length, List.length_cons]
    omega
theorem text_none {w : World} {lo g : Nat} (h : Rdr w lo g ⟨[], false⟩) :
    Calls Try.prog 13 #[ptr g] w fun e w' => e = .returned (.string ⟨#[]⟩) ∧ Rdr w' lo g ⟨[], true⟩ ∧ w.grownBy w' (some g) := by
  have := text_any_r h (by simp)
  simpa [St.text, St.textSt, St.num, St.numSt, St.take, St.got, St.can, St.failed, val_nil] using this

set_option maxRecDepth 20000 in
set_option maxHeartbeats 1000000 in
theorem texts_walk (v : Value) (ls : List ByteArray) (w : World) (hm : ls.length ≤ maxLen) (hv : Rd w v (strsV ls)) :
    Calls Try.prog 7 #[v] w fun e w' => e = .returned (.bool true) ∧ Below w.heap.size w w' := by
  obtain ⟨A, c, rfl, hc, hA⟩ := id hv
  rw [strsV_length] at hA hc hv ⊢
  unfold maxLen at hm
  by_cases hlong : 30 < ls.length
  · go_enter Try.func7, Try.ntmps7
    go_wp2_with (go_at_call 8; refine (fit_any _).mono ?_; rintro e w1 ⟨rfl, hb1⟩)
    go_ret
    exact ⟨rfl, hb1⟩
  go_enter Try.func7, Try.ntmps7
  go_wp2_with (go_at_call 8; refine (fit_any _).mono ?_; rintro e w1 ⟨rfl, hb1⟩)
  go_loopw [3, 4, 17] (fun b m i wr => ∃ k : Nat, k ≤ ls.length ∧ i = .int .i64 k ∧ (∀ s ∈ ls.take k, s.size ≤ 255) ∧ (∃ A' c', b = .slice A' (flat (ls.take k)).length c' ∧ Rd wr b (u8s (flat (ls.take k)))) ∧ m = .int .i64 ((flat (ls.take k)).length : Int) ∧ Below w.heap.size w wr) (fun _ _ i _ => ls.length - (intOf i).toNat)
  case atStart => exact ⟨0, by omega, rfl, by simp, ⟨_, _, rfl, Rd.nil_ _ _ _⟩, rfl, hb1⟩
  case round =>
    obtain ⟨k, hk, rfl, hall, ⟨A', c', rfl, hrd⟩, rfl, hb⟩ := hrel
    have hfl := flat_le _ hall
    rw [List.length_take] at hfl
    by_cases hlt : k < ls.length
    · obtain ⟨bb, o, rfl, hbb, hcell⟩ := hA (by omega)
      have hck := (hb.cell (p := ⟨bb, o + k, none⟩) hbb).trans (hcell k _ (strsV_get ls k hlt))
      have HS := hide (flat_snoc ls k hlt)
      have HM := hide (show ∀ s ∈ ls.take (k + 1), s ∈ ls.take k ∨ s = ls[k] from fun s hs => by
        rw [List.take_succ_eq_append_getElem hlt] at hs
        simpa only [List.mem_append, List.mem_singleton] using hs)
      generalize ls[k] = s at *
      have HA := hide hall
      have HR := hide hrd
      clear hcell hall hrd hv hA
      generalize flat (ls.take k) = fk at *
      by_cases hs : 255 < s.size
      · go_wp2
        go_ret
        exact ⟨rfl, hb⟩
      · go_wp2_with (go_at_call 16; with_reducible refine (text_told _ fk s fk.length _ rfl (by omega) (by omega) HR.out).mono ?_; rintro e w3 ⟨A3, c3, rfl, hrd3, hb3⟩; rw [HS.out] at hrd3; have HR3 := hide hrd3; clear hrd3)
        have hle : (flat (ls.take (k + 1))).length = fk.length + 1 + s.size := by
          rw [← HS.out, List.length_append, laid_length]; omega
        go_round
        case rel => exact ⟨k + 1, by omega, by go_num, fun u hu => (HM.out u hu).elim (HA.out u) (fun e => by rw [e]; omega), ⟨A3, c3, by rw [hle], HR3.out⟩, by rw [hle]; go_num, hb.trans (hb3.mono hb.size)⟩
        case measure => simp [intOf]; omega
    · obtain rfl : k = ls.length := by omega
      rw [List.take_length] at hall hrd hfl ⊢
      have HF := hide (show flat ls = flat (ls.drop 0) by rw [List.drop_zero])
      have hend := hide (show flat (ls.drop ls.length) = [] by rw [List.drop_of_length_le (Nat.le_refl _)]; rfl)
      have HR := hide hrd
      have hlo1 := hb.size
      clear hb1 hrd
      go_wp2_with (go_at_call 9; with_reducible refine (new_any _ (flat ls) _ (by omega) HR.out).mono ?_; rw [HF.out]; rintro e w2 ⟨g, rfl, hr2, hb2⟩)
      have hlo := hr2.lo_le
      have hbb := hb.trans (hb2.mono hb.size)
      have HL : Hid (∀ j, (flat (ls.drop j)).length ≤ 70368744177664) := hide fun j => by
        have h1 : ∀ s ∈ ls.drop j, s.size ≤ 255 := fun s hs => hall s (List.mem_of_mem_drop hs)
        have h2 := flat_le _ h1
        rw [List.length_drop] at h2
        omega
      go_loopw [37] (fun i wr' => ∃ k : Nat, k ≤ ls.length ∧ i = .int .i64 k ∧ Rdr wr' wr.heap.size g ⟨flat (ls.drop k), false⟩ ∧ Below w.heap.size w wr') (fun i _ => ls.length - (intOf i).toNat)
      case atStart => exact ⟨0, by omega, rfl, hr2, hbb⟩
      case round =>
        obtain ⟨k, hk, rfl, hr, hb'⟩ := hrel
        by_cases hlt : k < ls.length
        · obtain ⟨bb, o, rfl, hbl, hcell⟩ := hA (by omega)
          have hck := (hb'.cell (p := ⟨bb, o + k, none⟩) hbl).trans (hcell k _ (strsV_get ls k hlt))
          have hsz := hide (show (ls[k]).data.toList.length ≤ 255 from by
            have := hall _ (List.getElem_mem hlt)
            rw [Array.length_toList]; exact this)
          have hlen := hide (HL.out k)
          rw [flat_cons ls k hlt] at hr hlen
          generalize ls[k] = s at *
          have HR2 := hide hr
          clear hcell hr hr2 hbb
          go_wp2_with (first
            | (go_at_call 13; with_reducible refine (text_str HR2.out hsz.out hlen.out).mono ?_; rintro e w7 ⟨rfl, hr7, hg7⟩)
            | (go_at_call 14; with_reducible refine (bad_at hr7).mono ?_; rintro e w8 ⟨rfl, rfl⟩))
          go_round
          case rel => exact ⟨k + 1, by omega, by go_num, hr7, hb'.grown hg7 hb'.size fun j hj => by injection hj with hj; omega⟩
          case measure => simp [intOf]; omega
        · obtain rfl : k = ls.length := by omega
          rw [hend.out] at hr
          clear hr2 hbb
          go_wp2_with (first
            | (go_at_call 15; with_reducible refine (rest_at hr).mono ?_; rintro e w6 ⟨rfl, rfl⟩)
            | (go_at_call 13; with_reducible refine (text_none hr).mono ?_; rintro e w7 ⟨rfl, hr7, hg7⟩)
            | (go_at_call 14; with_reducible refine (bad_at hr7).mono ?_; rintro e w8 ⟨rfl, rfl⟩))
          go_ret
          exact ⟨rfl, hb'.grown hg7 hb'.size fun j hj => by injection hj with hj; omega⟩
end Go.Proofs.Ytalojooicpkdhaa
