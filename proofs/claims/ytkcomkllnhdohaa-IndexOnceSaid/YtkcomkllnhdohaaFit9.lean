/-
  The law's own 'fit': the example.
-/
import Derived.Test.YtkcomkllnhdohaaSt
namespace Go.Proofs.Ytkcomkllnhdohaa
open Go.RowKit Go.Shelf
set_option linter.unusedSimpArgs false
set_option linter.unusedVariables false
attribute [local go_sem] Oper.semAt_some

def fk (k : Nat) : ByteArray := [(⟨#[100]⟩ : ByteArray), ⟨#[98, 98]⟩, ⟨#[97]⟩, ⟨#[98]⟩].getD k ⟨#[]⟩
def fi (s : ByteArray) : It := ⟨0, s, ⟨#[]⟩, 0, 0⟩
def fitL : Nat → List It
  | 0 => []
  | k + 1 => putL (fi (fk k)) (fitL k)
theorem fit_four : fitL 4 = [fi ⟨#[97]⟩, fi ⟨#[98]⟩, fi ⟨#[98, 98]⟩, fi ⟨#[100]⟩] := by
  simp [fitL, putL, ins, itB, itS, fi, fk, Lib.toList_data, Op.bytesLess]
theorem fit_scan : scanL (sought 0 ⟨#[98]⟩) (sought 0 ⟨#[99]⟩) (fitL 4) = [fi ⟨#[98]⟩, fi ⟨#[98, 98]⟩] := by
  rw [fit_four]
  simp [scanL, cutL, posL, endL, cnt, itB, fi, sought, Lib.toList_data, Op.bytesLess]
def fitStr : Nat → ByteArray
  | 0 => ⟨#[]⟩
  | 1 => ⟨#[98, 32]⟩
  | _ => ⟨#[98, 32, 98, 98, 32]⟩
def fitA : Array Value := #[.string ⟨#[100]⟩, .string ⟨#[98, 98]⟩, .string ⟨#[97]⟩, .string ⟨#[98]⟩]
theorem fitA_at : ∀ k, k < 4 → fitA[k]? = some (.string (fk k))
  | 0, _ => rfl
  | 1, _ => rfl
  | 2, _ => rfl
  | 3, _ => rfl
  | k + 4, h => absurd h (by omega)
theorem fitL_few : ∀ k, k ≤ 4 → (fitL k).length ≤ k ∧ Srt (fitL k)
  | 0, _ => ⟨Nat.le_refl _, List.Pairwise.nil⟩
  | k + 1, h => by
    obtain ⟨h1, h2⟩ := fitL_few k (by omega)
    exact ⟨Nat.le_trans (putL_length h2) (by omega), srt_put h2⟩
set_option maxRecDepth 20000 in
set_option maxHeartbeats 4000000 in
theorem fit_any (w : World) : Calls Try.prog 10 #[] w fun e w' => e = .returned (.bool true) ∧ Below w.heap.size w w' := by
  refine (callsIn_wide (n := 4)).1 ?_
  refine callsIn_of_wp_marks Try.func10 rfl trivial ?_ rfl
  refine wpIn_wide.2 ?_
  simp only [Try.ntmps10, List.size_toArray, List.length_cons, List.length_nil, Nat.reduceAdd, Nat.reduceSub, Array.replicate_succ, Array.replicate_zero, List.push_toArray, List.append_toArray, List.nil_append, List.cons_append]
  go_wp2
  have S0 : Hid (Ow w (fun _ => False) ((w.alloc (.cells #[.slice none 0 0] 27)).alloc (.cells fitA 9)) [.ix w.heap.size (fitL 0), .blk (w.heap.size + 1) 9 fitA]) := hide (by
    have h := (Ow.start w).newix.box 9 fitA
    rw [World.size_alloc] at h
    exact h)
  go_loopw [8] (fun i wr => ∃ (k : Nat), k ≤ 4 ∧ i = .int .i64 k ∧ Hid (Ow w (fun _ => False) wr [.ix w.heap.size (fitL k), .blk (w.heap.size + 1) 9 fitA])) (fun i _ => 4 - (intOf i).toNat)
  case atStart => exact ⟨0, by omega, rfl, S0⟩
  case round =>
    obtain ⟨k, hk, rfl, hs⟩ := hrel
    by_cases hlt : k < 4
    · have hc := (hs.out.blk (i := 1) rfl).cell k _ (fitA_at k hlt)
      have hp := ow_put hs.out (i := 0) rfl (fi (fk k)) (by have := (fitL_few k hk).1; omega)
      have HP := hide hp
      have HLT := hide hlt
      have q0 : (0 : Int) ≤ (k : Int) := by omega
      have q1 : (k : Int) < 4 := by omega
      clear hp
      unfold fi at HP
      dsimp only at HP
      go_wp2_with (go_at_call 12; refine HP.out.mono ?_; rintro e w2 ⟨rfl, h1⟩; have HS2 := hide h1; clear h1)
      go_roundw
      case rel => exact ⟨k + 1, by have := HLT.out; omega, by go_num, HS2⟩
      case measure => simp [intOf]; have := HLT.out; omega
    · obtain rfl : k = 4 := by omega
      clear hlt hk
      have hlen := ow_len hs.out (i := 0) rfl
      rw [fit_four] at hlen
      have HL := hide hlen
      clear hlen
      go_wp2_with (first
        | (go_at_call 16; refine HL.out.mono ?_; rintro e w2 ⟨rfl, rfl⟩)
        | (go_at_call 19; refine (Scan_any _ _ _ _ _).mono ?_; rintro e w2 ⟨rfl, hsc⟩; have HSC := hide hsc; clear hsc))
      have hsz : (wr.alloc (.cells #[.string ⟨#[]⟩] 9)).heap.size = wr.heap.size + 1 := by simp
      have h1 := HSC.out.x
      have h2 := HSC.out.lo
      have h3 := HSC.out.hi
      rw [hsz] at h1 h2 h3
      obtain ⟨F, hF⟩ : Ow w (fun _ => False) w2 [.ix w.heap.size (fitL 4), .blk (w.heap.size + 1) 9 fitA, .blk wr.heap.size 9 #[.string (fitStr 0)]] := (hs.out.box 9 #[.string ⟨#[]⟩]).below HSC.out.bel
      clear hsz HSC HL hs S0
      generalize wr.heap.size = sb at *
      have hwD := hF.kept.size
      refine wpIn_wide.1 (range_scan (n := 4) (by omega) [fi ⟨#[98]⟩, fi ⟨#[98, 98]⟩] rfl rfl ?hit
        (fun q F A => OwF w (fun _ => False) F A [.ix w.heap.size (fitL 4), .blk (w.heap.size + 1) 9 fitA, .blk sb 9 #[.string (fitStr q)]]) (fun _ _ _ => False)
        (fun q F A B h e1 e2 hc => h.calm hc e1 e2 hwD) (fun _ _ _ _ h _ => h) ⟨F, hF, hF.lt⟩ ?round ?done ?stop)
      case hit =>
        intro l W J Jx hW hR h0
        obtain ⟨r, hX⟩ := Ow.ix (i := 0) ⟨F, hF⟩ rfl
        have := Scan1_in 3 l (by omega) (hX.below hW) (h1.below hW) (h2.below hW) (h3.below hW) (J := J) (Jx := Jx) (by rw [fit_scan]; exact hR) h0
        rw [fit_scan] at this
        exact this
      case round =>
        rintro q F x A hx hA e1 e2 hlA
        obtain ⟨K, rfl, hstr, hk5⟩ : ∃ K, x = fi K ∧ fitStr (q + 1) = fitStr q ++ (K ++ ⟨#[32]⟩) ∧ K.size ≤ 5 ∧ (fitStr q).size ≤ 5 := by
          match q, hx with
          | 0, hx => obtain rfl := Option.some.inj hx; exact ⟨_, rfl, rfl, by decide, by decide⟩
          | 1, hx => obtain rfl := Option.some.inj hx; exact ⟨_, rfl, rfl, by decide, by decide⟩
          | q + 2, hx => cases hx
        have HA := hide hA
        have HSTR := hide hstr
        have E1 := hide e1
        have E2 := hide e2
        clear hA hx hstr e1 e2
        unfold fi It.v
        dsimp only
        gi_wp2
        refine ⟨(Below.refl _ _).alloc (Nat.le_refl _) _, fun C hC hs2 => ?_⟩
        obtain ⟨F1, hF1, hnew⟩ := HA.out.round_in _ _ E1.out E2.out hwD hlA hC
        have hst := hF1.restart
        have x1 := (hst.blk (i := 3) rfl).cell 1 _ rfl
        have s0 := (hst.blk (i := 2) rfl).cell 0 _ rfl
        have s1 := (hst.blk (i := 2) rfl).frozen 0
        have HST := hide hst
        have HF1 := hide hF1
        have HNEW := hide hnew
        have HCS := hide (show A.heap.size ≤ C.heap.size by rw [hs2]; simp)
        clear hst hF1 hnew hC hs2
        gi_wp2
        refine HF1.out.round_out HNEW.out ?_ HCS.out
        rw [HSTR.out]
        exact (HST.out.set_ (i := 2) rfl 0 _).take 3
      case done =>
        rintro F A hA e1 hK
        have hlen := ow_len (i := 0) ⟨F, hA⟩ rfl
        rw [fit_four] at hlen
        have HL := hide hlen
        have s0 := (Ow.blk (i := 2) ⟨F, hA⟩ rfl).cell 0 _ rfl
        have HA := hide hA
        have HK := hide hK
        have hst : ((fitStr 2).toList == [98, 32, 98, 98, 32]) = true := by rw [Lib.toList_data]; rfl
        clear hlen hA hK e1
        go_wp2_with (go_at_call 16; refine HL.out.mono ?_; rintro e w2 ⟨rfl, rfl⟩)
        refine ⟨by simp, .inl ⟨_, _, rfl, run_takeDeferred HK.out, ?_⟩⟩
        refine ⟨.bool true, by simp [results, Try.results10, go_sem], rfl, ow_end ⟨F, HA.out⟩ hwD⟩
      case stop => intro c k A h; exact h.elim
end Go.Proofs.Ytkcomkllnhdohaa
