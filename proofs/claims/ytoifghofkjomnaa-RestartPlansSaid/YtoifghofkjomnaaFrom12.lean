/-
  Contract of restart's from: what a mark tells.
-/
import Derived.Test.YtoifghofkjomnaaSpec12
namespace Go.Proofs.Ytoifghofkjomnaa
open Go.RowKit
set_option maxRecDepth 20000
set_option linter.unusedSimpArgs false
set_option linter.unusedVariables false

theorem markN_take {ds : List Nat} {pl j d : Nat} (h : ds[j]? = some d) : markN (ds.take (j + 1)) pl = (if 0 < d ∧ d < markN (ds.take j) pl then d else markN (ds.take j) pl) := by
  unfold markN
  rw [List.take_add_one, h]
  show ((ds.take j) ++ [d]).foldl _ _ = _
  rw [List.foldl_append, List.foldl_cons, List.foldl_nil]
set_option maxHeartbeats 8000000 in
theorem from_any {w : World} {x : Ei} (hd : DOk w x) : Calls Try.prog 16 #[.agg x.vc] w fun e w' => e = .returned (.int .u64 (markN x.r.ds x.pl : Int)) ∧ Below w.heap.size w w' := by
  obtain ⟨⟨A, c, e, hc, hrd⟩, h6⟩ := hd
  obtain ⟨r, pl, A0, c0⟩ := x
  unfold Ei.dv at e
  injection e with e1 e2 e3
  subst e1 e3
  clear e2
  rw [u64s_length] at hrd
  unfold Ei.vc
  dsimp only at *
  obtain ⟨n, hn⟩ : ∃ n, r.ds.length = n := ⟨_, rfl⟩
  have hni : (n : Int) ≤ 6 := by omega
  have HN := hide hn
  have HR := hide hrd
  have HB0 : Hid (Below w.heap.size w (w.alloc (.cells #[.int .i64 (r.k : Int), .int .i64 (r.t : Int), .int .i64 (r.p : Int), .int .i64 (r.s : Int), .string r.b, .string r.a, .string r.i, .slice A0 n c0, .int .u64 (pl : Int)] 40))) := hide ((Below.refl _ _).alloc (Nat.le_refl _) _)
  rw [hn]
  clear hn hrd hc h6
  go_enter Try.func16, Try.ntmps16
  go_wp2
  go_loopw [3, 12] (fun m i wr => ∃ (j q : Nat), j ≤ n ∧ i = .int .i64 j ∧ m = .int .u64 (q : Int) ∧ Hid (q = markN (r.ds.take j) pl) ∧ Hid (Below w.heap.size w wr)) (fun _ i _ => n - (intOf i).toNat)
  case atStart => exact ⟨0, pl, by omega, rfl, rfl, hide rfl, HB0⟩
  case round =>
    obtain ⟨j, q, hj, rfl, rfl, hq, hb⟩ := hrel
    by_cases hlt : j < n
    · obtain ⟨d, hc⟩ : ∃ d, r.ds[j]? = some d := ⟨_, List.getElem?_eq_getElem (by have := HN.out; omega)⟩
      obtain ⟨b, o, rfl, hbk, hcell⟩ := HR.out (by have := HN.out; omega)
      have i0 : wr.cell? ⟨b, o + j, none⟩ = some (.int .u64 (d : Int)) := (hb.out.cell (p := ⟨b, o + j, none⟩) hbk).trans (hcell j _ (by unfold u64s; rw [List.getElem?_map, hc]; rfl))
      have HM := hide (markN_take (pl := pl) hc)
      have q0 : (0 : Int) ≤ (j : Int) := by omega
      have q1 : (j : Int) < (n : Int) := by omega
      have HLT := hide hlt
      clear hcell hc hlt hbk
      by_cases hd0 : 0 < d
      · have g0 : (0 : Int) < (d : Int) := by omega
        by_cases hdq : d < q
        · have g1 : (d : Int) < (q : Int) := by omega
          have HD : Hid (d = markN (r.ds.take (j + 1)) pl) := hide (by rw [HM.out, ← hq.out, if_pos ⟨hd0, hdq⟩])
          clear hd0 hdq
          go_wp2
          go_roundw
          case rel => exact ⟨j + 1, d, by have := HLT.out; omega, by go_num, by rw [Int.min_eq_right (by omega)], HD, hb⟩
          case measure => simp [intOf]; have := HLT.out; omega
        · have g1 : ¬ (d : Int) < (q : Int) := by omega
          have HD : Hid (q = markN (r.ds.take (j + 1)) pl) := hide (by rw [HM.out, ← hq.out, if_neg (fun h => hdq h.2)])
          clear hd0 hdq
          go_wp2
          go_roundw
          case rel => exact ⟨j + 1, q, by have := HLT.out; omega, by go_num, by rw [Int.min_eq_left (by omega)], HD, hb⟩
          case measure => simp [intOf]; have := HLT.out; omega
      · have g0 : ¬ (0 : Int) < (d : Int) := by omega
        have HD : Hid (q = markN (r.ds.take (j + 1)) pl) := hide (by rw [HM.out, ← hq.out, if_neg (fun h => hd0 h.1)])
        clear hd0
        go_wp2
        go_roundw
        case rel => exact ⟨j + 1, q, by have := HLT.out; omega, by go_num, rfl, HD, hb⟩
        case measure => simp [intOf]; have := HLT.out; omega
    · have q1 : ¬ (j : Int) < (n : Int) := by omega
      have HE : Hid (q = markN r.ds pl) := hide (by rw [hq.out, List.take_of_length_le (by have := HN.out; omega)])
      clear hlt
      go_wp2
      go_ret
      exact ⟨by rw [← HE.out]; rfl, hb.out⟩
end Go.Proofs.Ytoifghofkjomnaa
