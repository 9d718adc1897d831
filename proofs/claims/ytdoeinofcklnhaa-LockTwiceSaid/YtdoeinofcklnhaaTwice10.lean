/-
  LockTwice's walk.
-/
import Derived.Test.YtdoeinofcklnhaaKeyC
namespace Go.Proofs.Ytdoeinofcklnhaa
open Go.RowKit
set_option maxRecDepth 20000
set_option linter.unusedSimpArgs false
set_option linter.unusedVariables false

set_option maxHeartbeats 8000000 in
theorem twice_walk (v : Value) (cs : List LCall) (w : World) (hv : LCallRow w w.heap.size v cs) : Calls Try.prog 7 #[v] w fun e w' => e = .returned (.bool true) ∧ Below w.heap.size w w' := by
  obtain ⟨⟨A0, cap, rfl, hlc, _⟩, _⟩ := id hv
  have HV := hide hv
  clear hv hlc
  by_cases hlen : cs.length ≤ 60
  · have hl1 : ¬ (60 : Int) < (cs.length : Int) := by omega
    have HFEW := hide hlen
    clear hlen
    go_enter Try.func7, Try.ntmps7
    go_wp2_with (first
      | (go_at_call 8; (with_reducible refine (fit_any _).mono ?_); rintro e w0 ⟨rfl, hb⟩; have S0 := hide ((Ow.start w).below hb); clear hb)
      | (go_at_call 9; (with_reducible refine (ow_newlk S0.out).mono ?_); rintro e w1 ⟨g, rfl, hs⟩; have S1 := hide hs; clear hs))
    go_loopw [17] (fun i wr => ∃ (j n : Nat) (S : Th → Option Ho), j ≤ cs.length ∧ i = .int .i64 j ∧ Hid (Ow w (fun _ => False) wr [Res.lock g n S]) ∧ Hid (n ≤ 6 * j)) (fun i _ => cs.length - (intOf i).toNat)
    case atStart => exact ⟨0, 0, _, by omega, rfl, S1, hide (by omega)⟩
    case round =>
      clear S0 S1
      obtain ⟨j, n, S, hj, rfl, hs, hn⟩ := hrel
      by_cases hlt : j < cs.length
      · obtain ⟨cl, hc⟩ : ∃ cl, cs[j]? = some cl := ⟨_, List.getElem?_eq_getElem hlt⟩
        obtain ⟨_, b1, o1, rfl, ⟨i0, i1, i2, i3⟩, hok⟩ := lcall_cells HV.out hs.out.bel hc
        obtain ⟨ck, cw, t, k⟩ := cl
        dsimp only at i0 i1 i2 i3
        have q0 : (0 : Int) ≤ (j : Int) := by omega
        have q1 : (j : Int) < (cs.length : Int) := by omega
        have HLT := hide hlt
        have HT : Hid ((Lit.int .i64 t).wf = true) := hide hok.t
        clear hok hc hlt
        have SB := hide (hs.out.box 27 #[.int .i64 ck, .int .i64 cw, .int .i64 t, .string k])
        obtain ⟨m, hm4, hand⟩ := and3 cw
        have HWM : Hid ((Lit.int .i64 (m : Int)).wf = true) := hide (wf_small (by omega) (by omega))
        have hnb : n ≤ 900000 - 6 := by have := hn.out; have := HFEW.out; omega
        by_cases hl : k.size ≤ 100
        · have hl2 : ¬ (100 : Int) < (k.size : Int) := by omega
          have HK : Hid (k.size ≤ maxLen) := hide (by unfold maxLen; omega)
          clear hl hm4
          generalize hch : (bits .and .i64 ck 1 == 1) = ch at *
          have hs2 := SB.out
          cases hcan : canAll S m (keyC ch t k)
          · have HCAN := hide hcan
            clear hcan
            have hs := hs2
            clear hs2
            have HK0 := hide (ow_key (S := S) (S' := S) (n' := (n + 2)) hs (i := 0) rfl (m : Int) t k ch (b := false) HCAN.out rfl (by omega) (by omega) HWM.out ⟨HT.out, HK.out⟩)
            clear hs
            go_wp2_with (first
              | (go_at_call 10; (with_reducible refine HK0.out.mono ?_); rintro e w2 ⟨rfl, hs⟩; clear HK0; have p0 := (hs.blk (i := 1) rfl).cell 0 _ rfl; have p2 := (hs.blk (i := 1) rfl).cell 2 _ rfl; have p3 := (hs.blk (i := 1) rfl).cell 3 _ rfl; have HE := hide hs; clear hs))
            go_roundw
            case rel => exact ⟨j + 1, n + 2, S, by have := HLT.out; omega, by go_num, hide (HE.out.take 1), hide (by have := hn.out; omega)⟩
            case measure => simp [intOf]; have := HLT.out; omega
          · have HCAN := hide hcan
            clear hcan
            have hs := hs2
            clear hs2
            have HK0 := hide (ow_key (S := S) (S' := (takeAll S m (keyC ch t k))) (n' := (n + 2)) hs (i := 0) rfl (m : Int) t k ch (b := true) HCAN.out rfl (by omega) (by omega) HWM.out ⟨HT.out, HK.out⟩)
            clear hs
            go_wp2_with (first
              | (go_at_call 10; (with_reducible refine HK0.out.mono ?_); rintro e w2 ⟨rfl, hs⟩; clear HK0; have p0 := (hs.blk (i := 1) rfl).cell 0 _ rfl; have p2 := (hs.blk (i := 1) rfl).cell 2 _ rfl; have p3 := (hs.blk (i := 1) rfl).cell 3 _ rfl; have HS1 := hide hs; obtain ⟨c, hcnt⟩ := hs.cnt (i := 0) rfl; have HCNT := hide hcnt; clear hcnt; have HK1 := hide (ow_lklen (S := (takeAll S m (keyC ch t k))) hs (i := 0) rfl HCNT.out); clear hs)
              | (go_at_call 13; (with_reducible refine HK1.out.mono ?_); rintro e w3 ⟨rfl, rfl⟩; clear HK1; have hs := HS1.out; clear HS1; have HK2 := hide (ow_key (S := (takeAll S m (keyC ch t k))) (S' := (takeAll (takeAll S m (keyC ch t k)) m (keyC ch t k))) (n' := (n + 4)) hs (i := 0) rfl (m : Int) t k ch (b := true) (again_all HCAN.out) rfl (by omega) (by omega) HWM.out ⟨HT.out, HK.out⟩); clear hs)
              | (go_at_call 10; (with_reducible refine HK2.out.mono ?_); rintro e w4 ⟨rfl, hs⟩; clear HK2; have p0 := (hs.blk (i := 1) rfl).cell 0 _ rfl; have p2 := (hs.blk (i := 1) rfl).cell 2 _ rfl; have p3 := (hs.blk (i := 1) rfl).cell 3 _ rfl; have HK3 := hide (ow_key (S := (takeAll (takeAll S m (keyC ch t k)) m (keyC ch t k))) (S' := (takeAll (takeAll (takeAll S m (keyC ch t k)) m (keyC ch t k)) m (keyR t k))) (n' := (n + 6)) hs (i := 0) rfl (m : Int) t k false (b := true) (again_read (again_all HCAN.out)) rfl (by omega) (by omega) HWM.out ⟨HT.out, HK.out⟩); clear hs)
              | (go_at_call 10; (with_reducible refine HK3.out.mono ?_); rintro e w5 ⟨rfl, hs⟩; clear HK3; have p0 := (hs.blk (i := 1) rfl).cell 0 _ rfl; have p2 := (hs.blk (i := 1) rfl).cell 2 _ rfl; have p3 := (hs.blk (i := 1) rfl).cell 3 _ rfl; have HS4 := hide hs; have HK4 := hide (ow_lklen (S := (takeAll (takeAll (takeAll S m (keyC ch t k)) m (keyC ch t k)) m (keyR t k))) hs (i := 0) rfl (again_cnt HCNT.out)); clear hs)
              | (go_at_call 13; (with_reducible refine HK4.out.mono ?_); rintro e w6 ⟨rfl, rfl⟩; clear HK4; have hs := HS4.out; clear HS4; have HE := hide hs; clear hs))
            go_roundw
            case rel => exact ⟨j + 1, n + 6, _, by have := HLT.out; omega, by go_num, hide (HE.out.take 1), hide (by have := hn.out; omega)⟩
            case measure => simp [intOf]; have := HLT.out; omega
        · have hl2 : (100 : Int) < (k.size : Int) := by omega
          clear hl hm4 hand
          go_wp2
          go_ret
          exact ⟨rfl, SB.out.bel⟩
      · obtain rfl : j = cs.length := by omega
        clear hlt hj
        go_wp2
        go_ret
        exact ⟨rfl, hs.out.bel⟩
  · have hl1 : (60 : Int) < (cs.length : Int) := by omega
    clear hlen
    go_enter Try.func7, Try.ntmps7
    go_wp2_with (go_at_call 8; (with_reducible refine (fit_any _).mono ?_); rintro e w0 ⟨rfl, hb⟩; have S0 := hide ((Ow.start w).below hb); clear hb)
    go_ret
    exact ⟨rfl, S0.out.bel⟩
end Go.Proofs.Ytdoeinofcklnhaa
