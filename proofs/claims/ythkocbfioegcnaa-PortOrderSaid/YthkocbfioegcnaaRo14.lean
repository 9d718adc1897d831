/-
  The reference's Rows.
-/
import Derived.Test.YthkocbfioegcnaaRp14
namespace Go.Proofs.Ythkocbfioegcnaa
open Go.RowKit Crc
set_option maxRecDepth 20000
set_option linter.unusedSimpArgs false
set_option linter.unusedVariables false

theorem run_mid8 (A : Option Addr) (n c i j : Nat) (hij : i ≤ j) (hj : j ≤ n) (hc : n ≤ c) (w : World) : (Instr.slice 26 (.slice A n c) (some (.int .i64 (i : Int))) (some (.int .i64 (j : Int))) none).run Try.prog w = .ok (.slice (hiA A c i) (j - i) (c - i)) w := by
  rw [run_slice_lh w 26 A n c slice8 .i64 .i64 (i : Int) (j : Int) (by omega) (by omega) (by omega), size8]
  simp [Result.andThen, sliced, hiA]
theorem rd_mid8 {w : World} {A : Option Addr} {n c i j : Nat} {l : List UInt8} (h : Rd w (.slice A n c) (u8s l)) (hij : i ≤ j) (hj : j ≤ n) : Rd w (.slice (hiA A c i) (j - i) (c - i)) (u8s ((l.drop i).take (j - i))) :=
  (h.high (k := i) (by omega)).low (k := j - i) (by omega)
theorem bytes_rd {w : World} {v : Value} {l : List Rw} (hv : Rws w v l) (hs : l.length < 65536 ∧ ∀ x ∈ l, x.k.size ≤ 1000 ∧ x.v.size ≤ 1000) : Calls Try.prog 16 #[v] w fun e w' => ∃ u, e = .returned u ∧ (Say.rd (portL l).length (portL l)).p w' u ∧ Below w.heap.size w w' :=
  (bytes_any hv hs.1 hs.2).mono fun _ _ ⟨u, e, h, hb⟩ => ⟨u, e, mine_say h rfl, hb⟩
set_option maxHeartbeats 16000000 in
theorem rrows_any {w : World} {v : Value} {b : List UInt8} (hv : Rd w v (u8s b)) (hb : b.length ≤ 100000) : Calls Try.prog 17 #[v] w fun e w' => ∃ u c, e = .returned (.tuple #[u, .int .i64 c]) ∧ PDec w b u c w' := by
  suffices hsuf : ∀ PP : Value → Int → World → Prop, (∀ u c W', PDec w b u c W' → PP u c W') → Calls Try.prog 17 #[v] w fun e W' => ∃ u c, e = .returned (.tuple #[u, .int .i64 c]) ∧ PP u c W' from hsuf _ (fun _ _ _ h => h)
  intro PP hPP
  have HPP := hide hPP
  have HV := hide hv
  obtain ⟨A, c, rfl, hcl, hA⟩ := id hv
  rw [u8s_length] at hA hcl HV ⊢
  have hl1 : (b.length : Int) ≤ 100000 := by omega
  clear hv hPP
  by_cases hlen : b.length < 10
  · have hl2 : (b.length : Int) < 10 := by omega
    have hd2 : decide ((b.length : Int) < 10) = true := decide_eq_true hl2
    have hd3 : decide (b.length < 10) = true := decide_eq_true hlen
    have HNO : Hid (∀ l, ¬ PortOf b l) := hide (fun l h => by have := h.long; omega)
    go_enter Try.func17, Try.ntmps17
    go_wp2
    refine bodyPost_ret (v := .tuple #[.slice none 0 0, .int .i64 9]) (by simp [results, Try.results17, go_sem]) rfl ⟨_, _, rfl, ?_⟩
    exact HPP.out _ _ _ ⟨[], .form HNO.out, Kd.Row.nil _ _, (fun k e => by cases e), Below.refl _ _⟩
  · have hl2 : ¬ (b.length : Int) < 10 := by omega
    have hd2 : decide ((b.length : Int) < 10) = false := decide_eq_false hl2
    have hd3 : decide (b.length < 10) = false := decide_eq_false hlen
    obtain ⟨bb, o, rfl, hbb, hcell⟩ := hA (by omega)
    have HC : Hid (∀ W, Below w.heap.size w W → ∀ (j : Nat) x, b[j]? = some x → W.cell? ⟨bb, o + j, none⟩ = some (.int .u8 (x.toNat : Int))) := hide (fun W hW j x hj => (hW.cell (p := ⟨bb, o + j, none⟩) hbb).trans (hcell j _ (by rw [u8s, List.getElem?_map, hj]; rfl)))
    have hsl := fun W => run_low (P := Try.prog) slice8 size8 (some ⟨bb, o, none⟩) b.length c 4 (by omega) W
    have hcv := conv_rdn (n := 4) (l := b.take 4) (by rw [List.length_take]; omega) (HV.out.low (k := 4) (by omega))
    have hsl : ∀ W, (Instr.slice 26 (.slice (some ⟨bb, o, none⟩) b.length c) none (some (.int .i64 4)) none).run Try.prog W = .ok (.slice (some ⟨bb, o, none⟩) 4 c) W := hsl
    obtain ⟨b4, hb4⟩ : ∃ x, b[4]? = some x := ⟨_, List.getElem?_eq_getElem (by omega)⟩
    obtain ⟨b5, hb5⟩ : ∃ x, b[5]? = some x := ⟨_, List.getElem?_eq_getElem (by omega)⟩
    have i4 := HC.out w (Below.refl _ _) 4 b4 hb4
    have i5 := HC.out w (Below.refl _ _) 5 b5 hb5
    have HCNT : Hid (∀ l, PortOf b l → l.length = b4.toNat * 256 + b5.toNat) := hide (fun l h => h.count hb4 hb5)
    have hn4 : (b4.toNat : Int) < 256 := by have := b4.toNat_lt; omega
    have hn5 : (b5.toNat : Int) < 256 := by have := b5.toNat_lt; omega
    have hn6 : (4 : Int) < (b.length : Int) := by omega
    have hn7 : (5 : Int) < (b.length : Int) := by omega
    have hn8 : (0 : Int) ≤ (b4.toNat : Int) := by omega
    have hn9 : (0 : Int) ≤ (b5.toNat : Int) := by omega
    have HLEN : Hid (10 ≤ b.length) := hide (by omega)
    have HCL := hide hcl
    clear hcell hA hcl
    by_cases hhd : b.take 4 = headL
    · have hf1 : (b.take 4 == [84, 78, 77, 49]) = true := by rw [beq_iff_eq]; exact hhd
      clear hhd hb4 hb5
      go_enter Try.func17, Try.ntmps17
      go_upto_region 3 with (fail)
      clear hsl hcv hf1 hd2 hd3 hlen hl2
      go_quiet (fail)
      go_upto_region 7 with (fail)
      have hnn : ∃ n : Nat, (b4.toNat : Int) * 256 + (b5.toNat : Int) = (n : Int) ∧ n = b4.toNat * 256 + b5.toNat ∧ n < 65536 := ⟨b4.toNat * 256 + b5.toNat, by omega, rfl, by have := b4.toNat_lt; have := b5.toNat_lt; omega⟩
      obtain ⟨n, hn1, hn2, hn3⟩ := hnn
      try simp only [hn1]
      rw [← hn2] at HCNT
      have HN3 := hide hn3
      clear hn1 hn2 hn3 i4 i5 hn4 hn5 hn7 hn8 hn9
      have S0 : Hid (Ow w (fun _ => False) (w.drewN nq) [Res.row rwK (.slice none 0 0) []]) := hide (((Ow.start w).newrow rwK).below (below_drewN w nq))
      have HW0 := hide (Wit.start HLEN.out)
      go_loopw [5, 6, 7] (fun a u i wr => ∃ (j p : Nat) (A3 : Option Addr) (n3 c3 : Nat) (acc : List Rw), j ≤ n ∧ a = .int .i64 p ∧ i = .int .i64 j ∧ u = .slice A3 n3 c3 ∧ Hid (Wit b p acc) ∧ Hid (acc.length = j) ∧ Hid (Ow w (fun _ => False) wr [Res.row rwK (.slice A3 n3 c3) acc])) (fun _ _ i _ => n - (intOf i).toNat)
      case atStart => exact ⟨0, 6, none, 0, 0, [], by omega, rfl, rfl, rfl, HW0, hide rfl, S0⟩
      case round =>
        clear S0 HW0
        obtain ⟨j, p, A3, n3, c3, acc, hj, rfl, rfl, rfl, HW, HJ, hs⟩ := hrel
        by_cases hlt : j < n
        · have q1 : (j : Int) < (n : Int) := by omega
          have hjb : (j : Int) ≤ 70000 := by have := HN3.out; omega
          have HLT := hide hlt
          have HLA : Hid (acc.length ≤ 65536) := hide (by have := HJ.out; have := HN3.out; omega)
          have hpl := HW.out.le
          have hp1 : (p : Int) ≤ 100000 := by omega
          have hp2 : (p : Int) + 4 ≤ (b.length : Int) := by omega
          have HNX : Hid (∀ l, PortOf b l → acc.length < l.length) := hide (fun l h => by rw [HCNT.out l h, HJ.out]; exact hlt)
          clear hlt
          go_upto_region 10 with (fail)
          have S1 : Hid (Ow w (fun _ => False) (wr.alloc (.cells #[.int .i64 0, .string ⟨#[]⟩, .string ⟨#[]⟩] 32)) [Res.row rwK (.slice A3 n3 c3) acc, Res.blk wr.heap.size 32 #[.int .i64 0, .string ⟨#[]⟩, .string ⟨#[]⟩]]) := hide (hs.out.box 32 _)
          generalize (wr.alloc (.cells #[.int .i64 0, .string ⟨#[]⟩, .string ⟨#[]⟩] 32)) = w1 at *
          obtain ⟨bx, hbx⟩ : ∃ bx, wr.heap.size = bx := ⟨_, rfl⟩
          rw [hbx] at S1
          simp only [hbx]
          clear hbx hs
          obtain ⟨t, ht⟩ : ∃ x, b[p]? = some x := ⟨_, List.getElem?_eq_getElem (by omega)⟩
          obtain ⟨k, hk⟩ : ∃ x, b[p + 1]? = some x := ⟨_, List.getElem?_eq_getElem (by omega)⟩
          have i0 := HC.out w1 S1.out.bel _ _ ht
          have i1 := HC.out w1 S1.out.bel _ _ hk
          have ht9 : (t.toNat : Int) < 256 := by have := t.toNat_lt; omega
          have hk9 : (k.toNat : Int) < 256 := by have := k.toNat_lt; omega
          have a0 : (0 : Int) ≤ (p : Int) := by omega
          have a1 : (p : Int) < (b.length : Int) := by omega
          have a2 : (0 : Int) ≤ (p : Int) + 1 := by omega
          have a3 : (p : Int) + 1 < (b.length : Int) := by omega
          have a4 : ((p : Int) + 1).toNat = p + 1 := by omega
          have a5 : (p : Int) + 2 ≤ (b.length : Int) := by omega
          have HT := hide ht
          have HK := hide hk
          clear ht hk
          by_cases hen : p + 6 ≤ b.length
          · have e1 : decide ((b.length : Int) - 4 < (p : Int) + 2) = false := decide_eq_false (by omega)
            by_cases hen2 : p + 7 + k.toNat ≤ b.length
            · have e2 : decide ((b.length : Int) - 4 < (p : Int) + 2 + (k.toNat : Int) + 1) = false := decide_eq_false (by omega)
              have HEN := hide hen2
              clear hen hen2
              go_upto_region 12 with (fail)
              have f0 : w1.frozen? ⟨bx, 0, none⟩ = false := (S1.out.blk (i := 1) rfl).frozen 0
              have f1 : ∃ u, w1.cell? ⟨bx, 0, none⟩ = some u := ⟨_, (S1.out.blk (i := 1) rfl).cell 0 _ rfl⟩
              obtain ⟨u0, f1⟩ := f1
              go_upto_region 13 with (fail)
              have S2 : Hid (Ow w (fun _ => False) (w1.setCell ⟨bx, 0, none⟩ (.int .i64 (t.toNat : Int))) [Res.row rwK (.slice A3 n3 c3) acc, Res.blk bx 32 #[.int .i64 (t.toNat : Int), .string ⟨#[]⟩, .string ⟨#[]⟩]]) := hide (S1.out.set_ (i := 1) rfl 0 (.int .i64 (t.toNat : Int)))
              generalize (w1.setCell ⟨bx, 0, none⟩ (.int .i64 (t.toNat : Int))) = w2 at *
              clear S1 i0 i1 f0 f1 u0 e1 e2
              have i1 := HC.out w2 S2.out.bel _ _ HK.out
              obtain ⟨ks, hks⟩ : ∃ s, hereK b p k = s := ⟨_, rfl⟩
              have HKS := hide hks
              have a6 : (p : Int) + 2 + (k.toNat : Int) ≤ (b.length : Int) := by have := HEN.out; omega
              have a7 : (0 : Int) ≤ (k.toNat : Int) := by omega
              have hmid : ∀ W, (Instr.slice 26 (.slice (some ⟨bb, o, none⟩) b.length c) (some (.int .i64 ((p : Int) + 2))) (some (.int .i64 ((p : Int) + 2 + (k.toNat : Int)))) none).run Try.prog W = .ok (.slice (hiA (some ⟨bb, o, none⟩) c (p + 2)) k.toNat (c - (p + 2))) W := fun W => by
                have h := run_mid8 (some ⟨bb, o, none⟩) b.length c (p + 2) (p + 2 + k.toNat) (by omega) (by have := HEN.out; omega) HCL.out W
                rw [show p + 2 + k.toNat - (p + 2) = k.toNat by omega] at h
                exact h
              have hcv : (convert 26 9 (.slice (hiA (some ⟨bb, o, none⟩) c (p + 2)) k.toNat (c - (p + 2)))).run Try.prog w2 = .ok (.string ks) w2 := by
                rw [← hks]
                have h := rd_mid8 (HV.out.below S2.out.bel) (i := p + 2) (j := p + 2 + k.toNat) (by omega) (by have := HEN.out; omega)
                rw [show p + 2 + k.toNat - (p + 2) = k.toNat by omega] at h
                exact conv_rdn (by rw [List.length_take, List.length_drop]; have := HEN.out; omega) h
              generalize hiA (some ⟨bb, o, none⟩) c (p + 2) = Ak at *
              generalize c - (p + 2) = ck at *
              have f0 : w2.frozen? ⟨bx, 1, none⟩ = false := (S2.out.blk (i := 1) rfl).frozen 1
              obtain ⟨u0, f1⟩ : ∃ u, w2.cell? ⟨bx, 1, none⟩ = some u := ⟨_, (S2.out.blk (i := 1) rfl).cell 1 _ rfl⟩
              clear hks
              go_upto_region 15 with (fail)
              have S3 : Hid (Ow w (fun _ => False) (w2.setCell ⟨bx, 1, none⟩ (.string ks)) [Res.row rwK (.slice A3 n3 c3) acc, Res.blk bx 32 #[.int .i64 (t.toNat : Int), .string ks, .string ⟨#[]⟩]]) := hide (S2.out.set_ (i := 1) rfl 1 (.string ks))
              generalize (w2.setCell ⟨bx, 1, none⟩ (.string ks)) = w3 at *
              clear S2 i1 f0 f1 u0 hmid hcv a6
              go_upto_region 16 with (fail)
              obtain ⟨p2, hp2⟩ : ∃ p2, p2 = p + 2 + k.toNat := ⟨_, rfl⟩
              obtain ⟨vb, hvb⟩ : ∃ x, b[p2]? = some x := ⟨_, List.getElem?_eq_getElem (by have := HEN.out; omega)⟩
              have hz : (p : Int) + 2 + (k.toNat : Int) = (p2 : Int) := by omega
              have hz2 : (p : Int) + (2 + (k.toNat : Int)) = (p2 : Int) := by omega
              first | rw [hz2] | rw [hz]
              clear hz hz2
              have i2 := HC.out w3 S3.out.bel _ _ hvb
              have HVB := hide hvb
              have HP2 := hide hp2
              have hv9 : (vb.toNat : Int) < 256 := by have := vb.toNat_lt; omega
              have hv0 : (0 : Int) ≤ (vb.toNat : Int) := by omega
              have b0 : (0 : Int) ≤ (p2 : Int) := by omega
              have b1 : (p2 : Int) < (b.length : Int) := by have := HEN.out; omega
              have b2 : (p2 : Int) ≤ 100000 := by omega
              have HEN4 : Hid (p2 + 5 ≤ b.length) := hide (by have := HEN.out; omega)
              clear hvb hp2 a0 a1 a2 a3 a4 a5 a7
              by_cases hen3 : p2 + 5 + vb.toNat ≤ b.length
              · have e3 : decide ((b.length : Int) - 4 < (p2 : Int) + 1 + (vb.toNat : Int)) = false := decide_eq_false (by omega)
                have HEN3 := hide hen3
                clear hen3
                go_upto_region 19 with (fail)
                clear e3 i2
                obtain ⟨vs, hvs⟩ : ∃ s, hereV b p k vb = s := ⟨_, rfl⟩
                have HVS := hide hvs
                have a6 : (p2 : Int) + 1 + (vb.toNat : Int) ≤ (b.length : Int) := by have := HEN3.out; omega
                have hmid : ∀ W, (Instr.slice 26 (.slice (some ⟨bb, o, none⟩) b.length c) (some (.int .i64 ((p2 : Int) + 1))) (some (.int .i64 ((p2 : Int) + 1 + (vb.toNat : Int)))) none).run Try.prog W = .ok (.slice (hiA (some ⟨bb, o, none⟩) c (p2 + 1)) vb.toNat (c - (p2 + 1))) W := fun W => by
                  have h := run_mid8 (some ⟨bb, o, none⟩) b.length c (p2 + 1) (p2 + 1 + vb.toNat) (by omega) (by have := HEN3.out; omega) HCL.out W
                  rw [show p2 + 1 + vb.toNat - (p2 + 1) = vb.toNat by omega] at h
                  exact h
                have hcv : (convert 26 9 (.slice (hiA (some ⟨bb, o, none⟩) c (p2 + 1)) vb.toNat (c - (p2 + 1)))).run Try.prog w3 = .ok (.string vs) w3 := by
                  rw [← hvs]
                  have h := rd_mid8 (HV.out.below S3.out.bel) (i := p2 + 1) (j := p2 + 1 + vb.toNat) (by omega) (by have := HEN3.out; omega)
                  rw [show p2 + 1 + vb.toNat - (p2 + 1) = vb.toNat by omega] at h
                  unfold hereV
                  rw [← HP2.out]
                  exact conv_rdn (by rw [List.length_take, List.length_drop]; have := HEN3.out; omega) h
                generalize hiA (some ⟨bb, o, none⟩) c (p2 + 1) = Av at *
                generalize c - (p2 + 1) = cv at *
                have f0 : w3.frozen? ⟨bx, 2, none⟩ = false := (S3.out.blk (i := 1) rfl).frozen 2
                obtain ⟨u0, f1⟩ : ∃ u, w3.cell? ⟨bx, 2, none⟩ = some u := ⟨_, (S3.out.blk (i := 1) rfl).cell 2 _ rfl⟩
                clear hvs
                go_upto_region 20 with (fail)
                have S4 : Hid (Ow w (fun _ => False) (w3.setCell ⟨bx, 2, none⟩ (.string vs)) [Res.row rwK (.slice A3 n3 c3) acc, Res.blk bx 32 #[.int .i64 (t.toNat : Int), .string ks, .string vs]]) := hide (S3.out.set_ (i := 1) rfl 2 (.string vs))
                generalize (w3.setCell ⟨bx, 2, none⟩ (.string vs)) = w6 at *
                clear S3 f0 f1 u0 hmid hcv a6
                go_upto_region 21 with (fail)
                obtain ⟨p3, hp3⟩ : ∃ p3, p3 = p2 + 1 + vb.toNat := ⟨_, rfl⟩
                have hz : (p2 : Int) + 1 + (vb.toNat : Int) = (p3 : Int) := by omega
                have hz2 : (p2 : Int) + (1 + (vb.toNat : Int)) = (p3 : Int) := by omega
                first | rw [hz2] | rw [hz]
                have HP3 := hide hp3
                clear hz hz2 hp3
                have HX : Hid (hereR b p t k vb = ⟨(t.toNat : Int), ks, vs⟩) := hide (by unfold hereR; rw [HKS.out, HVS.out])
                have HROW : Hid (b.drop p = rowL ⟨(t.toNat : Int), ks, vs⟩ ++ b.drop p3) := hide (by
                  have h := row_here HT.out HK.out (by rw [← HP2.out]; exact HVB.out) (by have := HEN3.out; have := HP2.out; omega)
                  rw [HX.out] at h
                  rw [h, HP3.out, HP2.out])
                have HFX : Hid (Fit1 ⟨(t.toNat : Int), ks, vs⟩) := hide (by
                  have h := hereR_fit (b := b) (p := p) (t := t) (k := k) (v := vb) (by have := HEN3.out; have := HP2.out; omega)
                  rw [HX.out] at h
                  exact h)
                have HP3L : Hid (p3 + 4 ≤ b.length ∧ p3 = p + (rowL ⟨(t.toNat : Int), ks, vs⟩).length) := hide (by
                  have h := congrArg List.length HROW.out
                  rw [List.length_append, List.length_drop, List.length_drop] at h
                  have := HEN3.out
                  have := HP3.out
                  have := HP2.out
                  constructor <;> omega)
                have HS6 := S4
                have x0 := (S4.out.blk (i := 1) rfl).cell 0 _ rfl
                have x1 := (S4.out.blk (i := 1) rfl).cell 1 _ rfl
                have x2 := (S4.out.blk (i := 1) rfl).cell 2 _ rfl
                have HBX := hide (S4.out.blk (i := 1) rfl).lt
                clear S4 b0 b1 b2 hv9 hv0 HVS HKS HX HT HK HVB hk9
                cases hok : rowOkB (t.toNat : Int) ks vs
                · have HBAD : Hid (∀ l, ¬ PortOf b l) := hide (fun l h => by
                    have h2 := HW.out.bad h (HNX.out l h) HFX.out HROW.out
                    have h3 := (Ris.snoc.1 h2).2.1
                    unfold okR at h3
                    rw [hok] at h3
                    cases h3)
                  rcases rightB_not hok with h1 | ⟨h1, h2⟩ | ⟨h1, h2, h3⟩ | ⟨h1, h2, h3, h4⟩
                  · omega
                  · have d1 : decide (3 < (t.toNat : Int)) = true := decide_eq_true (by omega)
                    have d1n : decide (3 < t.toNat) = true := decide_eq_true (by omega)
                    refine region_grows [Say.is (.pointer (some ⟨bx, 0, none⟩)), Say.is (.int .i64 (t.toNat : Int)), Say.is (.bool true), Say.is (.bool true), Say.is (undef), Say.is (undef), Say.is (undef), Say.is (undef), Say.is (.bool true), Say.is (.bool true), Say.is (undef), Say.is (undef), Say.is (undef), Say.is (undef), Say.is (.bool true), Say.is (.bool true), Say.is (undef), Say.is (undef), Say.is (undef), Say.is (undef), Say.is (undef), Say.is (undef), Say.is (undef), Say.is (undef), Say.is (undef), Say.is (undef), Say.is (undef), Say.is (undef), Say.is (.bool true)] (by kernel_rfl) (by kernel_rfl) (by kernel_rfl) (by kernel_rfl) ?_ ?_
                    · intro i o ho a w2 hb hsz old dep
                      match i, ho with
                      | 0, ho =>
                        obtain rfl := Option.some.inj ho
                        have o8 : a.tmps.getD 8 undef = _ := old 8 (by kernel_rfl)
                        rw [if_pos (wanted_none rfl)]
                        refine grow_same (v := .pointer (some ⟨bx, 0, none⟩)) ?_ rfl
                        clear old dep ho hsz hb
                        go_simp
                      | 1, ho =>
                        obtain rfl := Option.some.inj ho
                        have d0 : a.tmps.getD 111 undef = .pointer (some ⟨bx, 0, none⟩) := dep 0 _ _ (by kernel_rfl) rfl rfl
                        have e0 : a.tmps[111]?.getD undef = _ := (Array.getD_eq_getD_getElem? ..).symm.trans d0
                        rw [if_pos (wanted_none rfl)]
                        have g0 := (hb.cell (p := ⟨bx, 0, none⟩) HBX.out).trans x0
                        refine grow_same (v := .int .i64 (t.toNat : Int)) ?_ rfl
                        clear old dep ho hsz hb
                        go_simp
                      | 2, ho =>
                        obtain rfl := Option.some.inj ho
                        have d1 : a.tmps.getD 112 undef = .int .i64 (t.toNat : Int) := dep 1 _ _ (by kernel_rfl) rfl rfl
                        have e1 : a.tmps[112]?.getD undef = _ := (Array.getD_eq_getD_getElem? ..).symm.trans d1
                        rw [if_pos (wanted_none rfl)]
                        refine grow_same (v := .bool true) ?_ rfl
                        clear old dep ho hsz hb
                        go_simp
                      | 3, ho =>
                        obtain rfl := Option.some.inj ho
                        have d2 : a.tmps.getD 113 undef = .bool true := dep 2 _ _ (by kernel_rfl) rfl rfl
                        have e2 : a.tmps[113]?.getD undef = _ := (Array.getD_eq_getD_getElem? ..).symm.trans d2
                        rw [if_pos (wanted_none rfl)]
                        refine grow_same (v := .bool true) ?_ rfl
                        clear old dep ho hsz hb
                        go_simp
                      | 4, ho =>
                        obtain rfl := Option.some.inj ho
                        have d3 : a.tmps.getD 114 undef = .bool true := dep 3 _ _ (by kernel_rfl) rfl rfl
                        have e3 : a.tmps[114]?.getD undef = _ := (Array.getD_eq_getD_getElem? ..).symm.trans d3
                        rw [if_neg (wanted_not rfl rfl rfl (by rw [hsz]; exact of_decide_eq_true rfl) d3 rfl)]
                        exact rfl
                      | 5, ho =>
                        obtain rfl := Option.some.inj ho
                        have d3 : a.tmps.getD 114 undef = .bool true := dep 3 _ _ (by kernel_rfl) rfl rfl
                        have e3 : a.tmps[114]?.getD undef = _ := (Array.getD_eq_getD_getElem? ..).symm.trans d3
                        rw [if_neg (wanted_not rfl rfl rfl (by rw [hsz]; exact of_decide_eq_true rfl) d3 rfl)]
                        exact rfl
                      | 6, ho =>
                        obtain rfl := Option.some.inj ho
                        have d3 : a.tmps.getD 114 undef = .bool true := dep 3 _ _ (by kernel_rfl) rfl rfl
                        have e3 : a.tmps[114]?.getD undef = _ := (Array.getD_eq_getD_getElem? ..).symm.trans d3
                        rw [if_neg (wanted_not rfl rfl rfl (by rw [hsz]; exact of_decide_eq_true rfl) d3 rfl)]
                        exact rfl
                      | 7, ho =>
                        obtain rfl := Option.some.inj ho
                        have d3 : a.tmps.getD 114 undef = .bool true := dep 3 _ _ (by kernel_rfl) rfl rfl
                        have e3 : a.tmps[114]?.getD undef = _ := (Array.getD_eq_getD_getElem? ..).symm.trans d3
                        rw [if_neg (wanted_not rfl rfl rfl (by rw [hsz]; exact of_decide_eq_true rfl) d3 rfl)]
                        exact rfl
                      | 8, ho =>
                        obtain rfl := Option.some.inj ho
                        have d3 : a.tmps.getD 114 undef = .bool true := dep 3 _ _ (by kernel_rfl) rfl rfl
                        have e3 : a.tmps[114]?.getD undef = _ := (Array.getD_eq_getD_getElem? ..).symm.trans d3
                        have d7 : a.tmps.getD 118 undef = undef := dep 7 _ _ (by kernel_rfl) rfl rfl
                        have e7 : a.tmps[118]?.getD undef = _ := (Array.getD_eq_getD_getElem? ..).symm.trans d7
                        rw [if_pos (wanted_none rfl)]
                        refine grow_same (v := .bool true) ?_ rfl
                        clear old dep ho hsz hb
                        go_simp
                      | 9, ho =>
                        obtain rfl := Option.some.inj ho
                        have d8 : a.tmps.getD 119 undef = .bool true := dep 8 _ _ (by kernel_rfl) rfl rfl
                        have e8 : a.tmps[119]?.getD undef = _ := (Array.getD_eq_getD_getElem? ..).symm.trans d8
                        rw [if_pos (wanted_none rfl)]
                        refine grow_same (v := .bool true) ?_ rfl
                        clear old dep ho hsz hb
                        go_simp
                      | 10, ho =>
                        obtain rfl := Option.some.inj ho
                        have d9 : a.tmps.getD 120 undef = .bool true := dep 9 _ _ (by kernel_rfl) rfl rfl
                        have e9 : a.tmps[120]?.getD undef = _ := (Array.getD_eq_getD_getElem? ..).symm.trans d9
                        rw [if_neg (wanted_not rfl rfl rfl (by rw [hsz]; exact of_decide_eq_true rfl) d9 rfl)]
                        exact rfl
                      | 11, ho =>
                        obtain rfl := Option.some.inj ho
                        have d9 : a.tmps.getD 120 undef = .bool true := dep 9 _ _ (by kernel_rfl) rfl rfl
                        have e9 : a.tmps[120]?.getD undef = _ := (Array.getD_eq_getD_getElem? ..).symm.trans d9
                        rw [if_neg (wanted_not rfl rfl rfl (by rw [hsz]; exact of_decide_eq_true rfl) d9 rfl)]
                        exact rfl
                      | 12, ho =>
                        obtain rfl := Option.some.inj ho
                        have d9 : a.tmps.getD 120 undef = .bool true := dep 9 _ _ (by kernel_rfl) rfl rfl
                        have e9 : a.tmps[120]?.getD undef = _ := (Array.getD_eq_getD_getElem? ..).symm.trans d9
                        rw [if_neg (wanted_not rfl rfl rfl (by rw [hsz]; exact of_decide_eq_true rfl) d9 rfl)]
                        exact rfl
                      | 13, ho =>
                        obtain rfl := Option.some.inj ho
                        have d9 : a.tmps.getD 120 undef = .bool true := dep 9 _ _ (by kernel_rfl) rfl rfl
                        have e9 : a.tmps[120]?.getD undef = _ := (Array.getD_eq_getD_getElem? ..).symm.trans d9
                        rw [if_neg (wanted_not rfl rfl rfl (by rw [hsz]; exact of_decide_eq_true rfl) d9 rfl)]
                        exact rfl
                      | 14, ho =>
                        obtain rfl := Option.some.inj ho
                        have d9 : a.tmps.getD 120 undef = .bool true := dep 9 _ _ (by kernel_rfl) rfl rfl
                        have e9 : a.tmps[120]?.getD undef = _ := (Array.getD_eq_getD_getElem? ..).symm.trans d9
                        have d13 : a.tmps.getD 124 undef = undef := dep 13 _ _ (by kernel_rfl) rfl rfl
                        have e13 : a.tmps[124]?.getD undef = _ := (Array.getD_eq_getD_getElem? ..).symm.trans d13
                        rw [if_pos (wanted_none rfl)]
                        refine grow_same (v := .bool true) ?_ rfl
                        clear old dep ho hsz hb
                        go_simp
                      | 15, ho =>
                        obtain rfl := Option.some.inj ho
                        have d14 : a.tmps.getD 125 undef = .bool true := dep 14 _ _ (by kernel_rfl) rfl rfl
                        have e14 : a.tmps[125]?.getD undef = _ := (Array.getD_eq_getD_getElem? ..).symm.trans d14
                        rw [if_pos (wanted_none rfl)]
                        refine grow_same (v := .bool true) ?_ rfl
                        clear old dep ho hsz hb
                        go_simp
                      | 16, ho =>
                        obtain rfl := Option.some.inj ho
                        have d15 : a.tmps.getD 126 undef = .bool true := dep 15 _ _ (by kernel_rfl) rfl rfl
                        have e15 : a.tmps[126]?.getD undef = _ := (Array.getD_eq_getD_getElem? ..).symm.trans d15
                        rw [if_neg (wanted_not rfl rfl rfl (by rw [hsz]; exact of_decide_eq_true rfl) d15 rfl)]
                        exact rfl
                      | 17, ho =>
                        obtain rfl := Option.some.inj ho
                        have d15 : a.tmps.getD 126 undef = .bool true := dep 15 _ _ (by kernel_rfl) rfl rfl
                        have e15 : a.tmps[126]?.getD undef = _ := (Array.getD_eq_getD_getElem? ..).symm.trans d15
                        rw [if_neg (wanted_not rfl rfl rfl (by rw [hsz]; exact of_decide_eq_true rfl) d15 rfl)]
                        exact rfl
                      | 18, ho =>
                        obtain rfl := Option.some.inj ho
                        have d15 : a.tmps.getD 126 undef = .bool true := dep 15 _ _ (by kernel_rfl) rfl rfl
                        have e15 : a.tmps[126]?.getD undef = _ := (Array.getD_eq_getD_getElem? ..).symm.trans d15
                        rw [if_neg (wanted_not rfl rfl rfl (by rw [hsz]; exact of_decide_eq_true rfl) d15 rfl)]
                        exact rfl
                      | 19, ho =>
                        obtain rfl := Option.some.inj ho
                        have d18 : a.tmps.getD 129 undef = undef := dep 18 _ _ (by kernel_rfl) rfl rfl
                        have e18 : a.tmps[129]?.getD undef = _ := (Array.getD_eq_getD_getElem? ..).symm.trans d18
                        rw [if_neg (wanted_undef rfl rfl rfl (by rw [hsz]; exact of_decide_eq_true rfl) d18)]
                        exact rfl
                      | 20, ho =>
                        obtain rfl := Option.some.inj ho
                        have d18 : a.tmps.getD 129 undef = undef := dep 18 _ _ (by kernel_rfl) rfl rfl
                        have e18 : a.tmps[129]?.getD undef = _ := (Array.getD_eq_getD_getElem? ..).symm.trans d18
                        rw [if_neg (wanted_undef rfl rfl rfl (by rw [hsz]; exact of_decide_eq_true rfl) d18)]
                        exact rfl
                      | 21, ho =>
                        obtain rfl := Option.some.inj ho
                        have d18 : a.tmps.getD 129 undef = undef := dep 18 _ _ (by kernel_rfl) rfl rfl
                        have e18 : a.tmps[129]?.getD undef = _ := (Array.getD_eq_getD_getElem? ..).symm.trans d18
                        rw [if_neg (wanted_undef rfl rfl rfl (by rw [hsz]; exact of_decide_eq_true rfl) d18)]
                        exact rfl
                      | 22, ho =>
                        obtain rfl := Option.some.inj ho
                        have d18 : a.tmps.getD 129 undef = undef := dep 18 _ _ (by kernel_rfl) rfl rfl
                        have e18 : a.tmps[129]?.getD undef = _ := (Array.getD_eq_getD_getElem? ..).symm.trans d18
                        rw [if_neg (wanted_undef rfl rfl rfl (by rw [hsz]; exact of_decide_eq_true rfl) d18)]
                        exact rfl
                      | 23, ho =>
                        obtain rfl := Option.some.inj ho
                        have d18 : a.tmps.getD 129 undef = undef := dep 18 _ _ (by kernel_rfl) rfl rfl
                        have e18 : a.tmps[129]?.getD undef = _ := (Array.getD_eq_getD_getElem? ..).symm.trans d18
                        rw [if_neg (wanted_undef rfl rfl rfl (by rw [hsz]; exact of_decide_eq_true rfl) d18)]
                        exact rfl
                      | 24, ho =>
                        obtain rfl := Option.some.inj ho
                        have d18 : a.tmps.getD 129 undef = undef := dep 18 _ _ (by kernel_rfl) rfl rfl
                        have e18 : a.tmps[129]?.getD undef = _ := (Array.getD_eq_getD_getElem? ..).symm.trans d18
                        rw [if_neg (wanted_undef rfl rfl rfl (by rw [hsz]; exact of_decide_eq_true rfl) d18)]
                        exact rfl
                      | 25, ho =>
                        obtain rfl := Option.some.inj ho
                        have d18 : a.tmps.getD 129 undef = undef := dep 18 _ _ (by kernel_rfl) rfl rfl
                        have e18 : a.tmps[129]?.getD undef = _ := (Array.getD_eq_getD_getElem? ..).symm.trans d18
                        rw [if_neg (wanted_undef rfl rfl rfl (by rw [hsz]; exact of_decide_eq_true rfl) d18)]
                        exact rfl
                      | 26, ho =>
                        obtain rfl := Option.some.inj ho
                        have d18 : a.tmps.getD 129 undef = undef := dep 18 _ _ (by kernel_rfl) rfl rfl
                        have e18 : a.tmps[129]?.getD undef = _ := (Array.getD_eq_getD_getElem? ..).symm.trans d18
                        rw [if_neg (wanted_undef rfl rfl rfl (by rw [hsz]; exact of_decide_eq_true rfl) d18)]
                        exact rfl
                      | 27, ho =>
                        obtain rfl := Option.some.inj ho
                        have d15 : a.tmps.getD 126 undef = .bool true := dep 15 _ _ (by kernel_rfl) rfl rfl
                        have e15 : a.tmps[126]?.getD undef = _ := (Array.getD_eq_getD_getElem? ..).symm.trans d15
                        rw [if_neg (wanted_not rfl rfl rfl (by rw [hsz]; exact of_decide_eq_true rfl) d15 rfl)]
                        exact rfl
                      | 28, ho =>
                        obtain rfl := Option.some.inj ho
                        have d15 : a.tmps.getD 126 undef = .bool true := dep 15 _ _ (by kernel_rfl) rfl rfl
                        have e15 : a.tmps[126]?.getD undef = _ := (Array.getD_eq_getD_getElem? ..).symm.trans d15
                        have d27 : a.tmps.getD 138 undef = undef := dep 27 _ _ (by kernel_rfl) rfl rfl
                        have e27 : a.tmps[138]?.getD undef = _ := (Array.getD_eq_getD_getElem? ..).symm.trans d27
                        rw [if_pos (wanted_none rfl)]
                        refine grow_same (v := .bool true) ?_ rfl
                        clear old dep ho hsz hb
                        go_simp
                      | i + 29, ho => exact absurd ho (by simp)
                    · intro a w7 hb hsz hdf fin keep
                      obtain ⟨tm, df⟩ := a
                      have hx := frame_of [111, 112, 113, 114, 115, 116, 117, 118, 119, 120, 121, 122, 123, 124, 125, 126, 127, 128, 129, 130, 131, 132, 133, 134, 135, 136, 137, 138, 139] (by kernel_rfl) hsz keep
                      dsimp only at hdf hx
                      simp only [List.foldl_cons, List.foldl_nil] at hx
                      subst hdf
                      clear hsz keep
                      have kn : tm.getD 111 undef = .pointer (some ⟨bx, 0, none⟩) := fin 0 _ _ rfl rfl
                      rw [kn] at hx
                      clear kn
                      have kn : tm.getD 112 undef = .int .i64 (t.toNat : Int) := fin 1 _ _ rfl rfl
                      rw [kn] at hx
                      clear kn
                      have kn : tm.getD 113 undef = .bool true := fin 2 _ _ rfl rfl
                      rw [kn] at hx
                      clear kn
                      have kn : tm.getD 114 undef = .bool true := fin 3 _ _ rfl rfl
                      rw [kn] at hx
                      clear kn
                      have kn : tm.getD 115 undef = undef := fin 4 _ _ rfl rfl
                      rw [kn] at hx
                      clear kn
                      have kn : tm.getD 116 undef = undef := fin 5 _ _ rfl rfl
                      rw [kn] at hx
                      clear kn
                      have kn : tm.getD 117 undef = undef := fin 6 _ _ rfl rfl
                      rw [kn] at hx
                      clear kn
                      have kn : tm.getD 118 undef = undef := fin 7 _ _ rfl rfl
                      rw [kn] at hx
                      clear kn
                      have kn : tm.getD 119 undef = .bool true := fin 8 _ _ rfl rfl
                      rw [kn] at hx
                      clear kn
                      have kn : tm.getD 120 undef = .bool true := fin 9 _ _ rfl rfl
                      rw [kn] at hx
                      clear kn
                      have kn : tm.getD 121 undef = undef := fin 10 _ _ rfl rfl
                      rw [kn] at hx
                      clear kn
                      have kn : tm.getD 122 undef = undef := fin 11 _ _ rfl rfl
                      rw [kn] at hx
                      clear kn
                      have kn : tm.getD 123 undef = undef := fin 12 _ _ rfl rfl
                      rw [kn] at hx
                      clear kn
                      have kn : tm.getD 124 undef = undef := fin 13 _ _ rfl rfl
                      rw [kn] at hx
                      clear kn
                      have kn : tm.getD 125 undef = .bool true := fin 14 _ _ rfl rfl
                      rw [kn] at hx
                      clear kn
                      have kn : tm.getD 126 undef = .bool true := fin 15 _ _ rfl rfl
                      rw [kn] at hx
                      clear kn
                      have kn : tm.getD 127 undef = undef := fin 16 _ _ rfl rfl
                      rw [kn] at hx
                      clear kn
                      have kn : tm.getD 128 undef = undef := fin 17 _ _ rfl rfl
                      rw [kn] at hx
                      clear kn
                      have kn : tm.getD 129 undef = undef := fin 18 _ _ rfl rfl
                      rw [kn] at hx
                      clear kn
                      have kn : tm.getD 130 undef = undef := fin 19 _ _ rfl rfl
                      rw [kn] at hx
                      clear kn
                      have kn : tm.getD 131 undef = undef := fin 20 _ _ rfl rfl
                      rw [kn] at hx
                      clear kn
                      have kn : tm.getD 132 undef = undef := fin 21 _ _ rfl rfl
                      rw [kn] at hx
                      clear kn
                      have kn : tm.getD 133 undef = undef := fin 22 _ _ rfl rfl
                      rw [kn] at hx
                      clear kn
                      have kn : tm.getD 134 undef = undef := fin 23 _ _ rfl rfl
                      rw [kn] at hx
                      clear kn
                      have kn : tm.getD 135 undef = undef := fin 24 _ _ rfl rfl
                      rw [kn] at hx
                      clear kn
                      have kn : tm.getD 136 undef = undef := fin 25 _ _ rfl rfl
                      rw [kn] at hx
                      clear kn
                      have kn : tm.getD 137 undef = undef := fin 26 _ _ rfl rfl
                      rw [kn] at hx
                      clear kn
                      have kn : tm.getD 138 undef = undef := fin 27 _ _ rfl rfl
                      rw [kn] at hx
                      clear kn
                      have kn : tm.getD 139 undef = .bool true := fin 28 _ _ rfl rfl
                      rw [kn] at hx
                      clear kn
                      clear fin
                      simp only [List.setIfInBounds_toArray, List.set_cons_succ, List.set_cons_zero] at hx
                      subst hx
                      go_wp2
                      refine bodyPost_ret (v := .tuple #[.slice none 0 0, .int .i64 9]) (by simp [results, Try.results17, go_sem]) rfl ⟨_, _, rfl, ?_⟩
                      exact HPP.out _ _ _ ⟨[], .form HBAD.out, Kd.Row.nil _ _, (fun k e => by cases e), (HS6.out.below hb).bel⟩
                  · have d1 : decide (3 < (t.toNat : Int)) = false := decide_eq_false (by omega)
                    have d1n : decide (3 < t.toNat) = false := decide_eq_false (by omega)
                    have d2 : decide (15 < (ks.size : Int)) = true := decide_eq_true (by omega)
                    have d2n : decide (15 < ks.size) = true := decide_eq_true (by omega)
                    refine region_grows [Say.is (.pointer (some ⟨bx, 0, none⟩)), Say.is (.int .i64 (t.toNat : Int)), Say.is (.bool false), Say.is (.bool false), Say.is (.pointer (some ⟨bx, 1, none⟩)), Say.is (.string ks), Say.is (.int .i64 (ks.size : Int)), Say.is (.bool true), Say.is (.bool true), Say.is (.bool true), Say.is (undef), Say.is (undef), Say.is (undef), Say.is (undef), Say.is (.bool true), Say.is (.bool true), Say.is (undef), Say.is (undef), Say.is (undef), Say.is (undef), Say.is (undef), Say.is (undef), Say.is (undef), Say.is (undef), Say.is (undef), Say.is (undef), Say.is (undef), Say.is (undef), Say.is (.bool true)] (by kernel_rfl) (by kernel_rfl) (by kernel_rfl) (by kernel_rfl) ?_ ?_
                    · intro i o ho a w2 hb hsz old dep
                      match i, ho with
                      | 0, ho =>
                        obtain rfl := Option.some.inj ho
                        have o8 : a.tmps.getD 8 undef = _ := old 8 (by kernel_rfl)
                        rw [if_pos (wanted_none rfl)]
                        refine grow_same (v := .pointer (some ⟨bx, 0, none⟩)) ?_ rfl
                        clear old dep ho hsz hb
                        go_simp
                      | 1, ho =>
                        obtain rfl := Option.some.inj ho
                        have d0 : a.tmps.getD 111 undef = .pointer (some ⟨bx, 0, none⟩) := dep 0 _ _ (by kernel_rfl) rfl rfl
                        have e0 : a.tmps[111]?.getD undef = _ := (Array.getD_eq_getD_getElem? ..).symm.trans d0
                        rw [if_pos (wanted_none rfl)]
                        have g0 := (hb.cell (p := ⟨bx, 0, none⟩) HBX.out).trans x0
                        refine grow_same (v := .int .i64 (t.toNat : Int)) ?_ rfl
                        clear old dep ho hsz hb
                        go_simp
                      | 2, ho =>
                        obtain rfl := Option.some.inj ho
                        have d1 : a.tmps.getD 112 undef = .int .i64 (t.toNat : Int) := dep 1 _ _ (by kernel_rfl) rfl rfl
                        have e1 : a.tmps[112]?.getD undef = _ := (Array.getD_eq_getD_getElem? ..).symm.trans d1
                        rw [if_pos (wanted_none rfl)]
                        refine grow_same (v := .bool false) ?_ rfl
                        clear old dep ho hsz hb
                        go_simp
                      | 3, ho =>
                        obtain rfl := Option.some.inj ho
                        have d2 : a.tmps.getD 113 undef = .bool false := dep 2 _ _ (by kernel_rfl) rfl rfl
                        have e2 : a.tmps[113]?.getD undef = _ := (Array.getD_eq_getD_getElem? ..).symm.trans d2
                        rw [if_pos (wanted_none rfl)]
                        refine grow_same (v := .bool false) ?_ rfl
                        clear old dep ho hsz hb
                        go_simp
                      | 4, ho =>
                        obtain rfl := Option.some.inj ho
                        have o8 : a.tmps.getD 8 undef = _ := old 8 (by kernel_rfl)
                        have d3 : a.tmps.getD 114 undef = .bool false := dep 3 _ _ (by kernel_rfl) rfl rfl
                        have e3 : a.tmps[114]?.getD undef = _ := (Array.getD_eq_getD_getElem? ..).symm.trans d3
                        rw [if_pos (wanted_some rfl rfl rfl (by rw [hsz]; exact of_decide_eq_true rfl) d3)]
                        refine grow_same (v := .pointer (some ⟨bx, 1, none⟩)) ?_ rfl
                        clear old dep ho hsz hb
                        go_simp
                      | 5, ho =>
                        obtain rfl := Option.some.inj ho
                        have d4 : a.tmps.getD 115 undef = .pointer (some ⟨bx, 1, none⟩) := dep 4 _ _ (by kernel_rfl) rfl rfl
                        have e4 : a.tmps[115]?.getD undef = _ := (Array.getD_eq_getD_getElem? ..).symm.trans d4
                        have d3 : a.tmps.getD 114 undef = .bool false := dep 3 _ _ (by kernel_rfl) rfl rfl
                        have e3 : a.tmps[114]?.getD undef = _ := (Array.getD_eq_getD_getElem? ..).symm.trans d3
                        rw [if_pos (wanted_some rfl rfl rfl (by rw [hsz]; exact of_decide_eq_true rfl) d3)]
                        have g0 := (hb.cell (p := ⟨bx, 1, none⟩) HBX.out).trans x1
                        refine grow_same (v := .string ks) ?_ rfl
                        clear old dep ho hsz hb
                        go_simp
                      | 6, ho =>
                        obtain rfl := Option.some.inj ho
                        have d5 : a.tmps.getD 116 undef = .string ks := dep 5 _ _ (by kernel_rfl) rfl rfl
                        have e5 : a.tmps[116]?.getD undef = _ := (Array.getD_eq_getD_getElem? ..).symm.trans d5
                        have d3 : a.tmps.getD 114 undef = .bool false := dep 3 _ _ (by kernel_rfl) rfl rfl
                        have e3 : a.tmps[114]?.getD undef = _ := (Array.getD_eq_getD_getElem? ..).symm.trans d3
                        rw [if_pos (wanted_some rfl rfl rfl (by rw [hsz]; exact of_decide_eq_true rfl) d3)]
                        refine grow_same (v := .int .i64 (ks.size : Int)) ?_ rfl
                        clear old dep ho hsz hb
                        go_simp
                      | 7, ho =>
                        obtain rfl := Option.some.inj ho
                        have d6 : a.tmps.getD 117 undef = .int .i64 (ks.size : Int) := dep 6 _ _ (by kernel_rfl) rfl rfl
                        have e6 : a.tmps[117]?.getD undef = _ := (Array.getD_eq_getD_getElem? ..).symm.trans d6
                        have d3 : a.tmps.getD 114 undef = .bool false := dep 3 _ _ (by kernel_rfl) rfl rfl
                        have e3 : a.tmps[114]?.getD undef = _ := (Array.getD_eq_getD_getElem? ..).symm.trans d3
                        rw [if_pos (wanted_some rfl rfl rfl (by rw [hsz]; exact of_decide_eq_true rfl) d3)]
                        refine grow_same (v := .bool true) ?_ rfl
                        clear old dep ho hsz hb
                        go_simp
                      | 8, ho =>
                        obtain rfl := Option.some.inj ho
                        have d3 : a.tmps.getD 114 undef = .bool false := dep 3 _ _ (by kernel_rfl) rfl rfl
                        have e3 : a.tmps[114]?.getD undef = _ := (Array.getD_eq_getD_getElem? ..).symm.trans d3
                        have d7 : a.tmps.getD 118 undef = .bool true := dep 7 _ _ (by kernel_rfl) rfl rfl
                        have e7 : a.tmps[118]?.getD undef = _ := (Array.getD_eq_getD_getElem? ..).symm.trans d7
                        rw [if_pos (wanted_none rfl)]
                        refine grow_same (v := .bool true) ?_ rfl
                        clear old dep ho hsz hb
                        go_simp
                      | 9, ho =>
                        obtain rfl := Option.some.inj ho
                        have d8 : a.tmps.getD 119 undef = .bool true := dep 8 _ _ (by kernel_rfl) rfl rfl
                        have e8 : a.tmps[119]?.getD undef = _ := (Array.getD_eq_getD_getElem? ..).symm.trans d8
                        rw [if_pos (wanted_none rfl)]
                        refine grow_same (v := .bool true) ?_ rfl
                        clear old dep ho hsz hb
                        go_simp
                      | 10, ho =>
                        obtain rfl := Option.some.inj ho
                        have d9 : a.tmps.getD 120 undef = .bool true := dep 9 _ _ (by kernel_rfl) rfl rfl
                        have e9 : a.tmps[120]?.getD undef = _ := (Array.getD_eq_getD_getElem? ..).symm.trans d9
                        rw [if_neg (wanted_not rfl rfl rfl (by rw [hsz]; exact of_decide_eq_true rfl) d9 rfl)]
                        exact rfl
                      | 11, ho =>
                        obtain rfl := Option.some.inj ho
                        have d9 : a.tmps.getD 120 undef = .bool true := dep 9 _ _ (by kernel_rfl) rfl rfl
                        have e9 : a.tmps[120]?.getD undef = _ := (Array.getD_eq_getD_getElem? ..).symm.trans d9
                        rw [if_neg (wanted_not rfl rfl rfl (by rw [hsz]; exact of_decide_eq_true rfl) d9 rfl)]
                        exact rfl
                      | 12, ho =>
                        obtain rfl := Option.some.inj ho
                        have d9 : a.tmps.getD 120 undef = .bool true := dep 9 _ _ (by kernel_rfl) rfl rfl
                        have e9 : a.tmps[120]?.getD undef = _ := (Array.getD_eq_getD_getElem? ..).symm.trans d9
                        rw [if_neg (wanted_not rfl rfl rfl (by rw [hsz]; exact of_decide_eq_true rfl) d9 rfl)]
                        exact rfl
                      | 13, ho =>
                        obtain rfl := Option.some.inj ho
                        have d9 : a.tmps.getD 120 undef = .bool true := dep 9 _ _ (by kernel_rfl) rfl rfl
                        have e9 : a.tmps[120]?.getD undef = _ := (Array.getD_eq_getD_getElem? ..).symm.trans d9
                        rw [if_neg (wanted_not rfl rfl rfl (by rw [hsz]; exact of_decide_eq_true rfl) d9 rfl)]
                        exact rfl
                      | 14, ho =>
                        obtain rfl := Option.some.inj ho
                        have d9 : a.tmps.getD 120 undef = .bool true := dep 9 _ _ (by kernel_rfl) rfl rfl
                        have e9 : a.tmps[120]?.getD undef = _ := (Array.getD_eq_getD_getElem? ..).symm.trans d9
                        have d13 : a.tmps.getD 124 undef = undef := dep 13 _ _ (by kernel_rfl) rfl rfl
                        have e13 : a.tmps[124]?.getD undef = _ := (Array.getD_eq_getD_getElem? ..).symm.trans d13
                        rw [if_pos (wanted_none rfl)]
                        refine grow_same (v := .bool true) ?_ rfl
                        clear old dep ho hsz hb
                        go_simp
                      | 15, ho =>
                        obtain rfl := Option.some.inj ho
                        have d14 : a.tmps.getD 125 undef = .bool true := dep 14 _ _ (by kernel_rfl) rfl rfl
                        have e14 : a.tmps[125]?.getD undef = _ := (Array.getD_eq_getD_getElem? ..).symm.trans d14
                        rw [if_pos (wanted_none rfl)]
                        refine grow_same (v := .bool true) ?_ rfl
                        clear old dep ho hsz hb
                        go_simp
                      | 16, ho =>
                        obtain rfl := Option.some.inj ho
                        have d15 : a.tmps.getD 126 undef = .bool true := dep 15 _ _ (by kernel_rfl) rfl rfl
                        have e15 : a.tmps[126]?.getD undef = _ := (Array.getD_eq_getD_getElem? ..).symm.trans d15
                        rw [if_neg (wanted_not rfl rfl rfl (by rw [hsz]; exact of_decide_eq_true rfl) d15 rfl)]
                        exact rfl
                      | 17, ho =>
                        obtain rfl := Option.some.inj ho
                        have d15 : a.tmps.getD 126 undef = .bool true := dep 15 _ _ (by kernel_rfl) rfl rfl
                        have e15 : a.tmps[126]?.getD undef = _ := (Array.getD_eq_getD_getElem? ..).symm.trans d15
                        rw [if_neg (wanted_not rfl rfl rfl (by rw [hsz]; exact of_decide_eq_true rfl) d15 rfl)]
                        exact rfl
                      | 18, ho =>
                        obtain rfl := Option.some.inj ho
                        have d15 : a.tmps.getD 126 undef = .bool true := dep 15 _ _ (by kernel_rfl) rfl rfl
                        have e15 : a.tmps[126]?.getD undef = _ := (Array.getD_eq_getD_getElem? ..).symm.trans d15
                        rw [if_neg (wanted_not rfl rfl rfl (by rw [hsz]; exact of_decide_eq_true rfl) d15 rfl)]
                        exact rfl
                      | 19, ho =>
                        obtain rfl := Option.some.inj ho
                        have d18 : a.tmps.getD 129 undef = undef := dep 18 _ _ (by kernel_rfl) rfl rfl
                        have e18 : a.tmps[129]?.getD undef = _ := (Array.getD_eq_getD_getElem? ..).symm.trans d18
                        rw [if_neg (wanted_undef rfl rfl rfl (by rw [hsz]; exact of_decide_eq_true rfl) d18)]
                        exact rfl
                      | 20, ho =>
                        obtain rfl := Option.some.inj ho
                        have d18 : a.tmps.getD 129 undef = undef := dep 18 _ _ (by kernel_rfl) rfl rfl
                        have e18 : a.tmps[129]?.getD undef = _ := (Array.getD_eq_getD_getElem? ..).symm.trans d18
                        rw [if_neg (wanted_undef rfl rfl rfl (by rw [hsz]; exact of_decide_eq_true rfl) d18)]
                        exact rfl
                      | 21, ho =>
                        obtain rfl := Option.some.inj ho
                        have d18 : a.tmps.getD 129 undef = undef := dep 18 _ _ (by kernel_rfl) rfl rfl
                        have e18 : a.tmps[129]?.getD undef = _ := (Array.getD_eq_getD_getElem? ..).symm.trans d18
                        rw [if_neg (wanted_undef rfl rfl rfl (by rw [hsz]; exact of_decide_eq_true rfl) d18)]
                        exact rfl
                      | 22, ho =>
                        obtain rfl := Option.some.inj ho
                        have d18 : a.tmps.getD 129 undef = undef := dep 18 _ _ (by kernel_rfl) rfl rfl
                        have e18 : a.tmps[129]?.getD undef = _ := (Array.getD_eq_getD_getElem? ..).symm.trans d18
                        rw [if_neg (wanted_undef rfl rfl rfl (by rw [hsz]; exact of_decide_eq_true rfl) d18)]
                        exact rfl
                      | 23, ho =>
                        obtain rfl := Option.some.inj ho
                        have d18 : a.tmps.getD 129 undef = undef := dep 18 _ _ (by kernel_rfl) rfl rfl
                        have e18 : a.tmps[129]?.getD undef = _ := (Array.getD_eq_getD_getElem? ..).symm.trans d18
                        rw [if_neg (wanted_undef rfl rfl rfl (by rw [hsz]; exact of_decide_eq_true rfl) d18)]
                        exact rfl
                      | 24, ho =>
                        obtain rfl := Option.some.inj ho
                        have d18 : a.tmps.getD 129 undef = undef := dep 18 _ _ (by kernel_rfl) rfl rfl
                        have e18 : a.tmps[129]?.getD undef = _ := (Array.getD_eq_getD_getElem? ..).symm.trans d18
                        rw [if_neg (wanted_undef rfl rfl rfl (by rw [hsz]; exact of_decide_eq_true rfl) d18)]
                        exact rfl
                      | 25, ho =>
                        obtain rfl := Option.some.inj ho
                        have d18 : a.tmps.getD 129 undef = undef := dep 18 _ _ (by kernel_rfl) rfl rfl
                        have e18 : a.tmps[129]?.getD undef = _ := (Array.getD_eq_getD_getElem? ..).symm.trans d18
                        rw [if_neg (wanted_undef rfl rfl rfl (by rw [hsz]; exact of_decide_eq_true rfl) d18)]
                        exact rfl
                      | 26, ho =>
                        obtain rfl := Option.some.inj ho
                        have d18 : a.tmps.getD 129 undef = undef := dep 18 _ _ (by kernel_rfl) rfl rfl
                        have e18 : a.tmps[129]?.getD undef = _ := (Array.getD_eq_getD_getElem? ..).symm.trans d18
                        rw [if_neg (wanted_undef rfl rfl rfl (by rw [hsz]; exact of_decide_eq_true rfl) d18)]
                        exact rfl
                      | 27, ho =>
                        obtain rfl := Option.some.inj ho
                        have d15 : a.tmps.getD 126 undef = .bool true := dep 15 _ _ (by kernel_rfl) rfl rfl
                        have e15 : a.tmps[126]?.getD undef = _ := (Array.getD_eq_getD_getElem? ..).symm.trans d15
                        rw [if_neg (wanted_not rfl rfl rfl (by rw [hsz]; exact of_decide_eq_true rfl) d15 rfl)]
                        exact rfl
                      | 28, ho =>
                        obtain rfl := Option.some.inj ho
                        have d15 : a.tmps.getD 126 undef = .bool true := dep 15 _ _ (by kernel_rfl) rfl rfl
                        have e15 : a.tmps[126]?.getD undef = _ := (Array.getD_eq_getD_getElem? ..).symm.trans d15
                        have d27 : a.tmps.getD 138 undef = undef := dep 27 _ _ (by kernel_rfl) rfl rfl
                        have e27 : a.tmps[138]?.getD undef = _ := (Array.getD_eq_getD_getElem? ..).symm.trans d27
                        rw [if_pos (wanted_none rfl)]
                        refine grow_same (v := .bool true) ?_ rfl
                        clear old dep ho hsz hb
                        go_simp
                      | i + 29, ho => exact absurd ho (by simp)
                    · intro a w7 hb hsz hdf fin keep
                      obtain ⟨tm, df⟩ := a
                      have hx := frame_of [111, 112, 113, 114, 115, 116, 117, 118, 119, 120, 121, 122, 123, 124, 125, 126, 127, 128, 129, 130, 131, 132, 133, 134, 135, 136, 137, 138, 139] (by kernel_rfl) hsz keep
                      dsimp only at hdf hx
                      simp only [List.foldl_cons, List.foldl_nil] at hx
                      subst hdf
                      clear hsz keep
                      have kn : tm.getD 111 undef = .pointer (some ⟨bx, 0, none⟩) := fin 0 _ _ rfl rfl
                      rw [kn] at hx
                      clear kn
                      have kn : tm.getD 112 undef = .int .i64 (t.toNat : Int) := fin 1 _ _ rfl rfl
                      rw [kn] at hx
                      clear kn
                      have kn : tm.getD 113 undef = .bool false := fin 2 _ _ rfl rfl
                      rw [kn] at hx
                      clear kn
                      have kn : tm.getD 114 undef = .bool false := fin 3 _ _ rfl rfl
                      rw [kn] at hx
                      clear kn
                      have kn : tm.getD 115 undef = .pointer (some ⟨bx, 1, none⟩) := fin 4 _ _ rfl rfl
                      rw [kn] at hx
                      clear kn
                      have kn : tm.getD 116 undef = .string ks := fin 5 _ _ rfl rfl
                      rw [kn] at hx
                      clear kn
                      have kn : tm.getD 117 undef = .int .i64 (ks.size : Int) := fin 6 _ _ rfl rfl
                      rw [kn] at hx
                      clear kn
                      have kn : tm.getD 118 undef = .bool true := fin 7 _ _ rfl rfl
                      rw [kn] at hx
                      clear kn
                      have kn : tm.getD 119 undef = .bool true := fin 8 _ _ rfl rfl
                      rw [kn] at hx
                      clear kn
                      have kn : tm.getD 120 undef = .bool true := fin 9 _ _ rfl rfl
                      rw [kn] at hx
                      clear kn
                      have kn : tm.getD 121 undef = undef := fin 10 _ _ rfl rfl
                      rw [kn] at hx
                      clear kn
                      have kn : tm.getD 122 undef = undef := fin 11 _ _ rfl rfl
                      rw [kn] at hx
                      clear kn
                      have kn : tm.getD 123 undef = undef := fin 12 _ _ rfl rfl
                      rw [kn] at hx
                      clear kn
                      have kn : tm.getD 124 undef = undef := fin 13 _ _ rfl rfl
                      rw [kn] at hx
                      clear kn
                      have kn : tm.getD 125 undef = .bool true := fin 14 _ _ rfl rfl
                      rw [kn] at hx
                      clear kn
                      have kn : tm.getD 126 undef = .bool true := fin 15 _ _ rfl rfl
                      rw [kn] at hx
                      clear kn
                      have kn : tm.getD 127 undef = undef := fin 16 _ _ rfl rfl
                      rw [kn] at hx
                      clear kn
                      have kn : tm.getD 128 undef = undef := fin 17 _ _ rfl rfl
                      rw [kn] at hx
                      clear kn
                      have kn : tm.getD 129 undef = undef := fin 18 _ _ rfl rfl
                      rw [kn] at hx
                      clear kn
                      have kn : tm.getD 130 undef = undef := fin 19 _ _ rfl rfl
                      rw [kn] at hx
                      clear kn
                      have kn : tm.getD 131 undef = undef := fin 20 _ _ rfl rfl
                      rw [kn] at hx
                      clear kn
                      have kn : tm.getD 132 undef = undef := fin 21 _ _ rfl rfl
                      rw [kn] at hx
                      clear kn
                      have kn : tm.getD 133 undef = undef := fin 22 _ _ rfl rfl
                      rw [kn] at hx
                      clear kn
                      have kn : tm.getD 134 undef = undef := fin 23 _ _ rfl rfl
                      rw [kn] at hx
                      clear kn
                      have kn : tm.getD 135 undef = undef := fin 24 _ _ rfl rfl
                      rw [kn] at hx
                      clear kn
                      have kn : tm.getD 136 undef = undef := fin 25 _ _ rfl rfl
                      rw [kn] at hx
                      clear kn
                      have kn : tm.getD 137 undef = undef := fin 26 _ _ rfl rfl
                      rw [kn] at hx
                      clear kn
                      have kn : tm.getD 138 undef = undef := fin 27 _ _ rfl rfl
                      rw [kn] at hx
                      clear kn
                      have kn : tm.getD 139 undef = .bool true := fin 28 _ _ rfl rfl
                      rw [kn] at hx
                      clear kn
                      clear fin
                      simp only [List.setIfInBounds_toArray, List.set_cons_succ, List.set_cons_zero] at hx
                      subst hx
                      go_wp2
                      refine bodyPost_ret (v := .tuple #[.slice none 0 0, .int .i64 9]) (by simp [results, Try.results17, go_sem]) rfl ⟨_, _, rfl, ?_⟩
                      exact HPP.out _ _ _ ⟨[], .form HBAD.out, Kd.Row.nil _ _, (fun k e => by cases e), (HS6.out.below hb).bel⟩
                  · have d1 : decide (3 < (t.toNat : Int)) = false := decide_eq_false (by omega)
                    have d1n : decide (3 < t.toNat) = false := decide_eq_false (by omega)
                    have d2 : decide (15 < (ks.size : Int)) = false := decide_eq_false (by omega)
                    have d2n : decide (15 < ks.size) = false := decide_eq_false (by omega)
                    have d3 : decide (21 < (vs.size : Int)) = true := decide_eq_true (by omega)
                    have d3n : decide (21 < vs.size) = true := decide_eq_true (by omega)
                    refine region_grows [Say.is (.pointer (some ⟨bx, 0, none⟩)), Say.is (.int .i64 (t.toNat : Int)), Say.is (.bool false), Say.is (.bool false), Say.is (.pointer (some ⟨bx, 1, none⟩)), Say.is (.string ks), Say.is (.int .i64 (ks.size : Int)), Say.is (.bool false), Say.is (.bool false), Say.is (.bool false), Say.is (.pointer (some ⟨bx, 2, none⟩)), Say.is (.string vs), Say.is (.int .i64 (vs.size : Int)), Say.is (.bool true), Say.is (.bool true), Say.is (.bool true), Say.is (undef), Say.is (undef), Say.is (undef), Say.is (undef), Say.is (undef), Say.is (undef), Say.is (undef), Say.is (undef), Say.is (undef), Say.is (undef), Say.is (undef), Say.is (undef), Say.is (.bool true)] (by kernel_rfl) (by kernel_rfl) (by kernel_rfl) (by kernel_rfl) ?_ ?_
                    · intro i o ho a w2 hb hsz old dep
                      match i, ho with
                      | 0, ho =>
                        obtain rfl := Option.some.inj ho
                        have o8 : a.tmps.getD 8 undef = _ := old 8 (by kernel_rfl)
                        rw [if_pos (wanted_none rfl)]
                        refine grow_same (v := .pointer (some ⟨bx, 0, none⟩)) ?_ rfl
                        clear old dep ho hsz hb
                        go_simp
                      | 1, ho =>
                        obtain rfl := Option.some.inj ho
                        have d0 : a.tmps.getD 111 undef = .pointer (some ⟨bx, 0, none⟩) := dep 0 _ _ (by kernel_rfl) rfl rfl
                        have e0 : a.tmps[111]?.getD undef = _ := (Array.getD_eq_getD_getElem? ..).symm.trans d0
                        rw [if_pos (wanted_none rfl)]
                        have g0 := (hb.cell (p := ⟨bx, 0, none⟩) HBX.out).trans x0
                        refine grow_same (v := .int .i64 (t.toNat : Int)) ?_ rfl
                        clear old dep ho hsz hb
                        go_simp
                      | 2, ho =>
                        obtain rfl := Option.some.inj ho
                        have d1 : a.tmps.getD 112 undef = .int .i64 (t.toNat : Int) := dep 1 _ _ (by kernel_rfl) rfl rfl
                        have e1 : a.tmps[112]?.getD undef = _ := (Array.getD_eq_getD_getElem? ..).symm.trans d1
                        rw [if_pos (wanted_none rfl)]
                        refine grow_same (v := .bool false) ?_ rfl
                        clear old dep ho hsz hb
                        go_simp
                      | 3, ho =>
                        obtain rfl := Option.some.inj ho
                        have d2 : a.tmps.getD 113 undef = .bool false := dep 2 _ _ (by kernel_rfl) rfl rfl
                        have e2 : a.tmps[113]?.getD undef = _ := (Array.getD_eq_getD_getElem? ..).symm.trans d2
                        rw [if_pos (wanted_none rfl)]
                        refine grow_same (v := .bool false) ?_ rfl
                        clear old dep ho hsz hb
                        go_simp
                      | 4, ho =>
                        obtain rfl := Option.some.inj ho
                        have o8 : a.tmps.getD 8 undef = _ := old 8 (by kernel_rfl)
                        have d3 : a.tmps.getD 114 undef = .bool false := dep 3 _ _ (by kernel_rfl) rfl rfl
                        have e3 : a.tmps[114]?.getD undef = _ := (Array.getD_eq_getD_getElem? ..).symm.trans d3
                        rw [if_pos (wanted_some rfl rfl rfl (by rw [hsz]; exact of_decide_eq_true rfl) d3)]
                        refine grow_same (v := .pointer (some ⟨bx, 1, none⟩)) ?_ rfl
                        clear old dep ho hsz hb
                        go_simp
                      | 5, ho =>
                        obtain rfl := Option.some.inj ho
                        have d4 : a.tmps.getD 115 undef = .pointer (some ⟨bx, 1, none⟩) := dep 4 _ _ (by kernel_rfl) rfl rfl
                        have e4 : a.tmps[115]?.getD undef = _ := (Array.getD_eq_getD_getElem? ..).symm.trans d4
                        have d3 : a.tmps.getD 114 undef = .bool false := dep 3 _ _ (by kernel_rfl) rfl rfl
                        have e3 : a.tmps[114]?.getD undef = _ := (Array.getD_eq_getD_getElem? ..).symm.trans d3
                        rw [if_pos (wanted_some rfl rfl rfl (by rw [hsz]; exact of_decide_eq_true rfl) d3)]
                        have g0 := (hb.cell (p := ⟨bx, 1, none⟩) HBX.out).trans x1
                        refine grow_same (v := .string ks) ?_ rfl
                        clear old dep ho hsz hb
                        go_simp
                      | 6, ho =>
                        obtain rfl := Option.some.inj ho
                        have d5 : a.tmps.getD 116 undef = .string ks := dep 5 _ _ (by kernel_rfl) rfl rfl
                        have e5 : a.tmps[116]?.getD undef = _ := (Array.getD_eq_getD_getElem? ..).symm.trans d5
                        have d3 : a.tmps.getD 114 undef = .bool false := dep 3 _ _ (by kernel_rfl) rfl rfl
                        have e3 : a.tmps[114]?.getD undef = _ := (Array.getD_eq_getD_getElem? ..).symm.trans d3
                        rw [if_pos (wanted_some rfl rfl rfl (by rw [hsz]; exact of_decide_eq_true rfl) d3)]
                        refine grow_same (v := .int .i64 (ks.size : Int)) ?_ rfl
                        clear old dep ho hsz hb
                        go_simp
                      | 7, ho =>
                        obtain rfl := Option.some.inj ho
                        have d6 : a.tmps.getD 117 undef = .int .i64 (ks.size : Int) := dep 6 _ _ (by kernel_rfl) rfl rfl
                        have e6 : a.tmps[117]?.getD undef = _ := (Array.getD_eq_getD_getElem? ..).symm.trans d6
                        have d3 : a.tmps.getD 114 undef = .bool false := dep 3 _ _ (by kernel_rfl) rfl rfl
                        have e3 : a.tmps[114]?.getD undef = _ := (Array.getD_eq_getD_getElem? ..).symm.trans d3
                        rw [if_pos (wanted_some rfl rfl rfl (by rw [hsz]; exact of_decide_eq_true rfl) d3)]
                        refine grow_same (v := .bool false) ?_ rfl
                        clear old dep ho hsz hb
                        go_simp
                      | 8, ho =>
                        obtain rfl := Option.some.inj ho
                        have d3 : a.tmps.getD 114 undef = .bool false := dep 3 _ _ (by kernel_rfl) rfl rfl
                        have e3 : a.tmps[114]?.getD undef = _ := (Array.getD_eq_getD_getElem? ..).symm.trans d3
                        have d7 : a.tmps.getD 118 undef = .bool false := dep 7 _ _ (by kernel_rfl) rfl rfl
                        have e7 : a.tmps[118]?.getD undef = _ := (Array.getD_eq_getD_getElem? ..).symm.trans d7
                        rw [if_pos (wanted_none rfl)]
                        refine grow_same (v := .bool false) ?_ rfl
                        clear old dep ho hsz hb
                        go_simp
                      | 9, ho =>
                        obtain rfl := Option.some.inj ho
                        have d8 : a.tmps.getD 119 undef = .bool false := dep 8 _ _ (by kernel_rfl) rfl rfl
                        have e8 : a.tmps[119]?.getD undef = _ := (Array.getD_eq_getD_getElem? ..).symm.trans d8
                        rw [if_pos (wanted_none rfl)]
                        refine grow_same (v := .bool false) ?_ rfl
                        clear old dep ho hsz hb
                        go_simp
                      | 10, ho =>
                        obtain rfl := Option.some.inj ho
                        have o8 : a.tmps.getD 8 undef = _ := old 8 (by kernel_rfl)
                        have d9 : a.tmps.getD 120 undef = .bool false := dep 9 _ _ (by kernel_rfl) rfl rfl
                        have e9 : a.tmps[120]?.getD undef = _ := (Array.getD_eq_getD_getElem? ..).symm.trans d9
                        rw [if_pos (wanted_some rfl rfl rfl (by rw [hsz]; exact of_decide_eq_true rfl) d9)]
                        refine grow_same (v := .pointer (some ⟨bx, 2, none⟩)) ?_ rfl
                        clear old dep ho hsz hb
                        go_simp
                      | 11, ho =>
                        obtain rfl := Option.some.inj ho
                        have d10 : a.tmps.getD 121 undef = .pointer (some ⟨bx, 2, none⟩) := dep 10 _ _ (by kernel_rfl) rfl rfl
                        have e10 : a.tmps[121]?.getD undef = _ := (Array.getD_eq_getD_getElem? ..).symm.trans d10
                        have d9 : a.tmps.getD 120 undef = .bool false := dep 9 _ _ (by kernel_rfl) rfl rfl
                        have e9 : a.tmps[120]?.getD undef = _ := (Array.getD_eq_getD_getElem? ..).symm.trans d9
                        rw [if_pos (wanted_some rfl rfl rfl (by rw [hsz]; exact of_decide_eq_true rfl) d9)]
                        have g0 := (hb.cell (p := ⟨bx, 2, none⟩) HBX.out).trans x2
                        refine grow_same (v := .string vs) ?_ rfl
                        clear old dep ho hsz hb
                        go_simp
                      | 12, ho =>
                        obtain rfl := Option.some.inj ho
                        have d11 : a.tmps.getD 122 undef = .string vs := dep 11 _ _ (by kernel_rfl) rfl rfl
                        have e11 : a.tmps[122]?.getD undef = _ := (Array.getD_eq_getD_getElem? ..).symm.trans d11
                        have d9 : a.tmps.getD 120 undef = .bool false := dep 9 _ _ (by kernel_rfl) rfl rfl
                        have e9 : a.tmps[120]?.getD undef = _ := (Array.getD_eq_getD_getElem? ..).symm.trans d9
                        rw [if_pos (wanted_some rfl rfl rfl (by rw [hsz]; exact of_decide_eq_true rfl) d9)]
                        refine grow_same (v := .int .i64 (vs.size : Int)) ?_ rfl
                        clear old dep ho hsz hb
                        go_simp
                      | 13, ho =>
                        obtain rfl := Option.some.inj ho
                        have d12 : a.tmps.getD 123 undef = .int .i64 (vs.size : Int) := dep 12 _ _ (by kernel_rfl) rfl rfl
                        have e12 : a.tmps[123]?.getD undef = _ := (Array.getD_eq_getD_getElem? ..).symm.trans d12
                        have d9 : a.tmps.getD 120 undef = .bool false := dep 9 _ _ (by kernel_rfl) rfl rfl
                        have e9 : a.tmps[120]?.getD undef = _ := (Array.getD_eq_getD_getElem? ..).symm.trans d9
                        rw [if_pos (wanted_some rfl rfl rfl (by rw [hsz]; exact of_decide_eq_true rfl) d9)]
                        refine grow_same (v := .bool true) ?_ rfl
                        clear old dep ho hsz hb
                        go_simp
                      | 14, ho =>
                        obtain rfl := Option.some.inj ho
                        have d9 : a.tmps.getD 120 undef = .bool false := dep 9 _ _ (by kernel_rfl) rfl rfl
                        have e9 : a.tmps[120]?.getD undef = _ := (Array.getD_eq_getD_getElem? ..).symm.trans d9
                        have d13 : a.tmps.getD 124 undef = .bool true := dep 13 _ _ (by kernel_rfl) rfl rfl
                        have e13 : a.tmps[124]?.getD undef = _ := (Array.getD_eq_getD_getElem? ..).symm.trans d13
                        rw [if_pos (wanted_none rfl)]
                        refine grow_same (v := .bool true) ?_ rfl
                        clear old dep ho hsz hb
                        go_simp
                      | 15, ho =>
                        obtain rfl := Option.some.inj ho
                        have d14 : a.tmps.getD 125 undef = .bool true := dep 14 _ _ (by kernel_rfl) rfl rfl
                        have e14 : a.tmps[125]?.getD undef = _ := (Array.getD_eq_getD_getElem? ..).symm.trans d14
                        rw [if_pos (wanted_none rfl)]
                        refine grow_same (v := .bool true) ?_ rfl
                        clear old dep ho hsz hb
                        go_simp
                      | 16, ho =>
                        obtain rfl := Option.some.inj ho
                        have d15 : a.tmps.getD 126 undef = .bool true := dep 15 _ _ (by kernel_rfl) rfl rfl
                        have e15 : a.tmps[126]?.getD undef = _ := (Array.getD_eq_getD_getElem? ..).symm.trans d15
                        rw [if_neg (wanted_not rfl rfl rfl (by rw [hsz]; exact of_decide_eq_true rfl) d15 rfl)]
                        exact rfl
                      | 17, ho =>
                        obtain rfl := Option.some.inj ho
                        have d15 : a.tmps.getD 126 undef = .bool true := dep 15 _ _ (by kernel_rfl) rfl rfl
                        have e15 : a.tmps[126]?.getD undef = _ := (Array.getD_eq_getD_getElem? ..).symm.trans d15
                        rw [if_neg (wanted_not rfl rfl rfl (by rw [hsz]; exact of_decide_eq_true rfl) d15 rfl)]
                        exact rfl
                      | 18, ho =>
                        obtain rfl := Option.some.inj ho
                        have d15 : a.tmps.getD 126 undef = .bool true := dep 15 _ _ (by kernel_rfl) rfl rfl
                        have e15 : a.tmps[126]?.getD undef = _ := (Array.getD_eq_getD_getElem? ..).symm.trans d15
                        rw [if_neg (wanted_not rfl rfl rfl (by rw [hsz]; exact of_decide_eq_true rfl) d15 rfl)]
                        exact rfl
                      | 19, ho =>
                        obtain rfl := Option.some.inj ho
                        have d18 : a.tmps.getD 129 undef = undef := dep 18 _ _ (by kernel_rfl) rfl rfl
                        have e18 : a.tmps[129]?.getD undef = _ := (Array.getD_eq_getD_getElem? ..).symm.trans d18
                        rw [if_neg (wanted_undef rfl rfl rfl (by rw [hsz]; exact of_decide_eq_true rfl) d18)]
                        exact rfl
                      | 20, ho =>
                        obtain rfl := Option.some.inj ho
                        have d18 : a.tmps.getD 129 undef = undef := dep 18 _ _ (by kernel_rfl) rfl rfl
                        have e18 : a.tmps[129]?.getD undef = _ := (Array.getD_eq_getD_getElem? ..).symm.trans d18
                        rw [if_neg (wanted_undef rfl rfl rfl (by rw [hsz]; exact of_decide_eq_true rfl) d18)]
                        exact rfl
                      | 21, ho =>
                        obtain rfl := Option.some.inj ho
                        have d18 : a.tmps.getD 129 undef = undef := dep 18 _ _ (by kernel_rfl) rfl rfl
                        have e18 : a.tmps[129]?.getD undef = _ := (Array.getD_eq_getD_getElem? ..).symm.trans d18
                        rw [if_neg (wanted_undef rfl rfl rfl (by rw [hsz]; exact of_decide_eq_true rfl) d18)]
                        exact rfl
                      | 22, ho =>
                        obtain rfl := Option.some.inj ho
                        have d18 : a.tmps.getD 129 undef = undef := dep 18 _ _ (by kernel_rfl) rfl rfl
                        have e18 : a.tmps[129]?.getD undef = _ := (Array.getD_eq_getD_getElem? ..).symm.trans d18
                        rw [if_neg (wanted_undef rfl rfl rfl (by rw [hsz]; exact of_decide_eq_true rfl) d18)]
                        exact rfl
                      | 23, ho =>
                        obtain rfl := Option.some.inj ho
                        have d18 : a.tmps.getD 129 undef = undef := dep 18 _ _ (by kernel_rfl) rfl rfl
                        have e18 : a.tmps[129]?.getD undef = _ := (Array.getD_eq_getD_getElem? ..).symm.trans d18
                        rw [if_neg (wanted_undef rfl rfl rfl (by rw [hsz]; exact of_decide_eq_true rfl) d18)]
                        exact rfl
                      | 24, ho =>
                        obtain rfl := Option.some.inj ho
                        have d18 : a.tmps.getD 129 undef = undef := dep 18 _ _ (by kernel_rfl) rfl rfl
                        have e18 : a.tmps[129]?.getD undef = _ := (Array.getD_eq_getD_getElem? ..).symm.trans d18
                        rw [if_neg (wanted_undef rfl rfl rfl (by rw [hsz]; exact of_decide_eq_true rfl) d18)]
                        exact rfl
                      | 25, ho =>
                        obtain rfl := Option.some.inj ho
                        have d18 : a.tmps.getD 129 undef = undef := dep 18 _ _ (by kernel_rfl) rfl rfl
                        have e18 : a.tmps[129]?.getD undef = _ := (Array.getD_eq_getD_getElem? ..).symm.trans d18
                        rw [if_neg (wanted_undef rfl rfl rfl (by rw [hsz]; exact of_decide_eq_true rfl) d18)]
                        exact rfl
                      | 26, ho =>
                        obtain rfl := Option.some.inj ho
                        have d18 : a.tmps.getD 129 undef = undef := dep 18 _ _ (by kernel_rfl) rfl rfl
                        have e18 : a.tmps[129]?.getD undef = _ := (Array.getD_eq_getD_getElem? ..).symm.trans d18
                        rw [if_neg (wanted_undef rfl rfl rfl (by rw [hsz]; exact of_decide_eq_true rfl) d18)]
                        exact rfl
                      | 27, ho =>
                        obtain rfl := Option.some.inj ho
                        have d15 : a.tmps.getD 126 undef = .bool true := dep 15 _ _ (by kernel_rfl) rfl rfl
                        have e15 : a.tmps[126]?.getD undef = _ := (Array.getD_eq_getD_getElem? ..).symm.trans d15
                        rw [if_neg (wanted_not rfl rfl rfl (by rw [hsz]; exact of_decide_eq_true rfl) d15 rfl)]
                        exact rfl
                      | 28, ho =>
                        obtain rfl := Option.some.inj ho
                        have d15 : a.tmps.getD 126 undef = .bool true := dep 15 _ _ (by kernel_rfl) rfl rfl
                        have e15 : a.tmps[126]?.getD undef = _ := (Array.getD_eq_getD_getElem? ..).symm.trans d15
                        have d27 : a.tmps.getD 138 undef = undef := dep 27 _ _ (by kernel_rfl) rfl rfl
                        have e27 : a.tmps[138]?.getD undef = _ := (Array.getD_eq_getD_getElem? ..).symm.trans d27
                        rw [if_pos (wanted_none rfl)]
                        refine grow_same (v := .bool true) ?_ rfl
                        clear old dep ho hsz hb
                        go_simp
                      | i + 29, ho => exact absurd ho (by simp)
                    · intro a w7 hb hsz hdf fin keep
                      obtain ⟨tm, df⟩ := a
                      have hx := frame_of [111, 112, 113, 114, 115, 116, 117, 118, 119, 120, 121, 122, 123, 124, 125, 126, 127, 128, 129, 130, 131, 132, 133, 134, 135, 136, 137, 138, 139] (by kernel_rfl) hsz keep
                      dsimp only at hdf hx
                      simp only [List.foldl_cons, List.foldl_nil] at hx
                      subst hdf
                      clear hsz keep
                      have kn : tm.getD 111 undef = .pointer (some ⟨bx, 0, none⟩) := fin 0 _ _ rfl rfl
                      rw [kn] at hx
                      clear kn
                      have kn : tm.getD 112 undef = .int .i64 (t.toNat : Int) := fin 1 _ _ rfl rfl
                      rw [kn] at hx
                      clear kn
                      have kn : tm.getD 113 undef = .bool false := fin 2 _ _ rfl rfl
                      rw [kn] at hx
                      clear kn
                      have kn : tm.getD 114 undef = .bool false := fin 3 _ _ rfl rfl
                      rw [kn] at hx
                      clear kn
                      have kn : tm.getD 115 undef = .pointer (some ⟨bx, 1, none⟩) := fin 4 _ _ rfl rfl
                      rw [kn] at hx
                      clear kn
                      have kn : tm.getD 116 undef = .string ks := fin 5 _ _ rfl rfl
                      rw [kn] at hx
                      clear kn
                      have kn : tm.getD 117 undef = .int .i64 (ks.size : Int) := fin 6 _ _ rfl rfl
                      rw [kn] at hx
                      clear kn
                      have kn : tm.getD 118 undef = .bool false := fin 7 _ _ rfl rfl
                      rw [kn] at hx
                      clear kn
                      have kn : tm.getD 119 undef = .bool false := fin 8 _ _ rfl rfl
                      rw [kn] at hx
                      clear kn
                      have kn : tm.getD 120 undef = .bool false := fin 9 _ _ rfl rfl
                      rw [kn] at hx
                      clear kn
                      have kn : tm.getD 121 undef = .pointer (some ⟨bx, 2, none⟩) := fin 10 _ _ rfl rfl
                      rw [kn] at hx
                      clear kn
                      have kn : tm.getD 122 undef = .string vs := fin 11 _ _ rfl rfl
                      rw [kn] at hx
                      clear kn
                      have kn : tm.getD 123 undef = .int .i64 (vs.size : Int) := fin 12 _ _ rfl rfl
                      rw [kn] at hx
                      clear kn
                      have kn : tm.getD 124 undef = .bool true := fin 13 _ _ rfl rfl
                      rw [kn] at hx
                      clear kn
                      have kn : tm.getD 125 undef = .bool true := fin 14 _ _ rfl rfl
                      rw [kn] at hx
                      clear kn
                      have kn : tm.getD 126 undef = .bool true := fin 15 _ _ rfl rfl
                      rw [kn] at hx
                      clear kn
                      have kn : tm.getD 127 undef = undef := fin 16 _ _ rfl rfl
                      rw [kn] at hx
                      clear kn
                      have kn : tm.getD 128 undef = undef := fin 17 _ _ rfl rfl
                      rw [kn] at hx
                      clear kn
                      have kn : tm.getD 129 undef = undef := fin 18 _ _ rfl rfl
                      rw [kn] at hx
                      clear kn
                      have kn : tm.getD 130 undef = undef := fin 19 _ _ rfl rfl
                      rw [kn] at hx
                      clear kn
                      have kn : tm.getD 131 undef = undef := fin 20 _ _ rfl rfl
                      rw [kn] at hx
                      clear kn
                      have kn : tm.getD 132 undef = undef := fin 21 _ _ rfl rfl
                      rw [kn] at hx
                      clear kn
                      have kn : tm.getD 133 undef = undef := fin 22 _ _ rfl rfl
                      rw [kn] at hx
                      clear kn
                      have kn : tm.getD 134 undef = undef := fin 23 _ _ rfl rfl
                      rw [kn] at hx
                      clear kn
                      have kn : tm.getD 135 undef = undef := fin 24 _ _ rfl rfl
                      rw [kn] at hx
                      clear kn
                      have kn : tm.getD 136 undef = undef := fin 25 _ _ rfl rfl
                      rw [kn] at hx
                      clear kn
                      have kn : tm.getD 137 undef = undef := fin 26 _ _ rfl rfl
                      rw [kn] at hx
                      clear kn
                      have kn : tm.getD 138 undef = undef := fin 27 _ _ rfl rfl
                      rw [kn] at hx
                      clear kn
                      have kn : tm.getD 139 undef = .bool true := fin 28 _ _ rfl rfl
                      rw [kn] at hx
                      clear kn
                      clear fin
                      simp only [List.setIfInBounds_toArray, List.set_cons_succ, List.set_cons_zero] at hx
                      subst hx
                      go_wp2
                      refine bodyPost_ret (v := .tuple #[.slice none 0 0, .int .i64 9]) (by simp [results, Try.results17, go_sem]) rfl ⟨_, _, rfl, ?_⟩
                      exact HPP.out _ _ _ ⟨[], .form HBAD.out, Kd.Row.nil _ _, (fun k e => by cases e), (HS6.out.below hb).bel⟩
                · obtain ⟨h1, h2, h3, h4⟩ := rightB_iff.1 hok
                  have HOKX : Hid (okR ⟨(t.toNat : Int), ks, vs⟩ = true) := hide hok
                  have d1 : decide (3 < (t.toNat : Int)) = false := decide_eq_false (by omega)
                  have d1n : decide (3 < t.toNat) = false := decide_eq_false (by omega)
                  have d2 : decide (15 < (ks.size : Int)) = false := decide_eq_false (by omega)
                  have d2n : decide (15 < ks.size) = false := decide_eq_false (by omega)
                  have d3 : decide (21 < (vs.size : Int)) = false := decide_eq_false (by omega)
                  have d3n : decide (21 < vs.size) = false := decide_eq_false (by omega)
                  clear h1 h2 h3 h4 hok
                  cases j with
                  | zero =>
                    obtain rfl : acc = [] := List.eq_nil_of_length_eq_zero HJ.out
                    have HW3 : Hid (Wit b p3 ([] ++ [⟨(t.toNat : Int), ks, vs⟩])) := hide (HW.out.more (Ris.snoc.2 ⟨Ris.nil, HOKX.out, fun y hy => by cases hy⟩) HROW.out HP3L.out.2 HP3L.out.1)
                    refine region_grows [Say.is (.pointer (some ⟨bx, 0, none⟩)), Say.is (.int .i64 (t.toNat : Int)), Say.is (.bool false), Say.is (.bool false), Say.is (.pointer (some ⟨bx, 1, none⟩)), Say.is (.string ks), Say.is (.int .i64 (ks.size : Int)), Say.is (.bool false), Say.is (.bool false), Say.is (.bool false), Say.is (.pointer (some ⟨bx, 2, none⟩)), Say.is (.string vs), Say.is (.int .i64 (vs.size : Int)), Say.is (.bool false), Say.is (.bool false), Say.is (.bool false), Say.is (.int .i64 0), Say.is (.bool false), Say.is (.bool false), Say.is (undef), Say.is (undef), Say.is (undef), Say.is (undef), Say.is (undef), Say.is (undef), Say.is (undef), Say.is (undef), Say.is (.bool false), Say.is (.bool false)] (by kernel_rfl) (by kernel_rfl) (by kernel_rfl) (by kernel_rfl) ?_ ?_
                    · intro i o ho a w2 hb hsz old dep
                      match i, ho with
                      | 0, ho =>
                        obtain rfl := Option.some.inj ho
                        have o8 : a.tmps.getD 8 undef = _ := old 8 (by kernel_rfl)
                        rw [if_pos (wanted_none rfl)]
                        refine grow_same (v := .pointer (some ⟨bx, 0, none⟩)) ?_ rfl
                        clear old dep ho hsz hb
                        go_simp
                      | 1, ho =>
                        obtain rfl := Option.some.inj ho
                        have d0 : a.tmps.getD 111 undef = .pointer (some ⟨bx, 0, none⟩) := dep 0 _ _ (by kernel_rfl) rfl rfl
                        have e0 : a.tmps[111]?.getD undef = _ := (Array.getD_eq_getD_getElem? ..).symm.trans d0
                        rw [if_pos (wanted_none rfl)]
                        have g0 := (hb.cell (p := ⟨bx, 0, none⟩) HBX.out).trans x0
                        refine grow_same (v := .int .i64 (t.toNat : Int)) ?_ rfl
                        clear old dep ho hsz hb
                        go_simp
                      | 2, ho =>
                        obtain rfl := Option.some.inj ho
                        have d1 : a.tmps.getD 112 undef = .int .i64 (t.toNat : Int) := dep 1 _ _ (by kernel_rfl) rfl rfl
                        have e1 : a.tmps[112]?.getD undef = _ := (Array.getD_eq_getD_getElem? ..).symm.trans d1
                        rw [if_pos (wanted_none rfl)]
                        refine grow_same (v := .bool false) ?_ rfl
                        clear old dep ho hsz hb
                        go_simp
                      | 3, ho =>
                        obtain rfl := Option.some.inj ho
                        have d2 : a.tmps.getD 113 undef = .bool false := dep 2 _ _ (by kernel_rfl) rfl rfl
                        have e2 : a.tmps[113]?.getD undef = _ := (Array.getD_eq_getD_getElem? ..).symm.trans d2
                        rw [if_pos (wanted_none rfl)]
                        refine grow_same (v := .bool false) ?_ rfl
                        clear old dep ho hsz hb
                        go_simp
                      | 4, ho =>
                        obtain rfl := Option.some.inj ho
                        have o8 : a.tmps.getD 8 undef = _ := old 8 (by kernel_rfl)
                        have d3 : a.tmps.getD 114 undef = .bool false := dep 3 _ _ (by kernel_rfl) rfl rfl
                        have e3 : a.tmps[114]?.getD undef = _ := (Array.getD_eq_getD_getElem? ..).symm.trans d3
                        rw [if_pos (wanted_some rfl rfl rfl (by rw [hsz]; exact of_decide_eq_true rfl) d3)]
                        refine grow_same (v := .pointer (some ⟨bx, 1, none⟩)) ?_ rfl
                        clear old dep ho hsz hb
                        go_simp
                      | 5, ho =>
                        obtain rfl := Option.some.inj ho
                        have d4 : a.tmps.getD 115 undef = .pointer (some ⟨bx, 1, none⟩) := dep 4 _ _ (by kernel_rfl) rfl rfl
                        have e4 : a.tmps[115]?.getD undef = _ := (Array.getD_eq_getD_getElem? ..).symm.trans d4
                        have d3 : a.tmps.getD 114 undef = .bool false := dep 3 _ _ (by kernel_rfl) rfl rfl
                        have e3 : a.tmps[114]?.getD undef = _ := (Array.getD_eq_getD_getElem? ..).symm.trans d3
                        rw [if_pos (wanted_some rfl rfl rfl (by rw [hsz]; exact of_decide_eq_true rfl) d3)]
                        have g0 := (hb.cell (p := ⟨bx, 1, none⟩) HBX.out).trans x1
                        refine grow_same (v := .string ks) ?_ rfl
                        clear old dep ho hsz hb
                        go_simp
                      | 6, ho =>
                        obtain rfl := Option.some.inj ho
                        have d5 : a.tmps.getD 116 undef = .string ks := dep 5 _ _ (by kernel_rfl) rfl rfl
                        have e5 : a.tmps[116]?.getD undef = _ := (Array.getD_eq_getD_getElem? ..).symm.trans d5
                        have d3 : a.tmps.getD 114 undef = .bool false := dep 3 _ _ (by kernel_rfl) rfl rfl
                        have e3 : a.tmps[114]?.getD undef = _ := (Array.getD_eq_getD_getElem? ..).symm.trans d3
                        rw [if_pos (wanted_some rfl rfl rfl (by rw [hsz]; exact of_decide_eq_true rfl) d3)]
                        refine grow_same (v := .int .i64 (ks.size : Int)) ?_ rfl
                        clear old dep ho hsz hb
                        go_simp
                      | 7, ho =>
                        obtain rfl := Option.some.inj ho
                        have d6 : a.tmps.getD 117 undef = .int .i64 (ks.size : Int) := dep 6 _ _ (by kernel_rfl) rfl rfl
                        have e6 : a.tmps[117]?.getD undef = _ := (Array.getD_eq_getD_getElem? ..).symm.trans d6
                        have d3 : a.tmps.getD 114 undef = .bool false := dep 3 _ _ (by kernel_rfl) rfl rfl
                        have e3 : a.tmps[114]?.getD undef = _ := (Array.getD_eq_getD_getElem? ..).symm.trans d3
                        rw [if_pos (wanted_some rfl rfl rfl (by rw [hsz]; exact of_decide_eq_true rfl) d3)]
                        refine grow_same (v := .bool false) ?_ rfl
                        clear old dep ho hsz hb
                        go_simp
                      | 8, ho =>
                        obtain rfl := Option.some.inj ho
                        have d3 : a.tmps.getD 114 undef = .bool false := dep 3 _ _ (by kernel_rfl) rfl rfl
                        have e3 : a.tmps[114]?.getD undef = _ := (Array.getD_eq_getD_getElem? ..).symm.trans d3
                        have d7 : a.tmps.getD 118 undef = .bool false := dep 7 _ _ (by kernel_rfl) rfl rfl
                        have e7 : a.tmps[118]?.getD undef = _ := (Array.getD_eq_getD_getElem? ..).symm.trans d7
                        rw [if_pos (wanted_none rfl)]
                        refine grow_same (v := .bool false) ?_ rfl
                        clear old dep ho hsz hb
                        go_simp
                      | 9, ho =>
                        obtain rfl := Option.some.inj ho
                        have d8 : a.tmps.getD 119 undef = .bool false := dep 8 _ _ (by kernel_rfl) rfl rfl
                        have e8 : a.tmps[119]?.getD undef = _ := (Array.getD_eq_getD_getElem? ..).symm.trans d8
                        rw [if_pos (wanted_none rfl)]
                        refine grow_same (v := .bool false) ?_ rfl
                        clear old dep ho hsz hb
                        go_simp
                      | 10, ho =>
                        obtain rfl := Option.some.inj ho
                        have o8 : a.tmps.getD 8 undef = _ := old 8 (by kernel_rfl)
                        have d9 : a.tmps.getD 120 undef = .bool false := dep 9 _ _ (by kernel_rfl) rfl rfl
                        have e9 : a.tmps[120]?.getD undef = _ := (Array.getD_eq_getD_getElem? ..).symm.trans d9
                        rw [if_pos (wanted_some rfl rfl rfl (by rw [hsz]; exact of_decide_eq_true rfl) d9)]
                        refine grow_same (v := .pointer (some ⟨bx, 2, none⟩)) ?_ rfl
                        clear old dep ho hsz hb
                        go_simp
                      | 11, ho =>
                        obtain rfl := Option.some.inj ho
                        have d10 : a.tmps.getD 121 undef = .pointer (some ⟨bx, 2, none⟩) := dep 10 _ _ (by kernel_rfl) rfl rfl
                        have e10 : a.tmps[121]?.getD undef = _ := (Array.getD_eq_getD_getElem? ..).symm.trans d10
                        have d9 : a.tmps.getD 120 undef = .bool false := dep 9 _ _ (by kernel_rfl) rfl rfl
                        have e9 : a.tmps[120]?.getD undef = _ := (Array.getD_eq_getD_getElem? ..).symm.trans d9
                        rw [if_pos (wanted_some rfl rfl rfl (by rw [hsz]; exact of_decide_eq_true rfl) d9)]
                        have g0 := (hb.cell (p := ⟨bx, 2, none⟩) HBX.out).trans x2
                        refine grow_same (v := .string vs) ?_ rfl
                        clear old dep ho hsz hb
                        go_simp
                      | 12, ho =>
                        obtain rfl := Option.some.inj ho
                        have d11 : a.tmps.getD 122 undef = .string vs := dep 11 _ _ (by kernel_rfl) rfl rfl
                        have e11 : a.tmps[122]?.getD undef = _ := (Array.getD_eq_getD_getElem? ..).symm.trans d11
                        have d9 : a.tmps.getD 120 undef = .bool false := dep 9 _ _ (by kernel_rfl) rfl rfl
                        have e9 : a.tmps[120]?.getD undef = _ := (Array.getD_eq_getD_getElem? ..).symm.trans d9
                        rw [if_pos (wanted_some rfl rfl rfl (by rw [hsz]; exact of_decide_eq_true rfl) d9)]
                        refine grow_same (v := .int .i64 (vs.size : Int)) ?_ rfl
                        clear old dep ho hsz hb
                        go_simp
                      | 13, ho =>
                        obtain rfl := Option.some.inj ho
                        have d12 : a.tmps.getD 123 undef = .int .i64 (vs.size : Int) := dep 12 _ _ (by kernel_rfl) rfl rfl
                        have e12 : a.tmps[123]?.getD undef = _ := (Array.getD_eq_getD_getElem? ..).symm.trans d12
                        have d9 : a.tmps.getD 120 undef = .bool false := dep 9 _ _ (by kernel_rfl) rfl rfl
                        have e9 : a.tmps[120]?.getD undef = _ := (Array.getD_eq_getD_getElem? ..).symm.trans d9
                        rw [if_pos (wanted_some rfl rfl rfl (by rw [hsz]; exact of_decide_eq_true rfl) d9)]
                        refine grow_same (v := .bool false) ?_ rfl
                        clear old dep ho hsz hb
                        go_simp
                      | 14, ho =>
                        obtain rfl := Option.some.inj ho
                        have d9 : a.tmps.getD 120 undef = .bool false := dep 9 _ _ (by kernel_rfl) rfl rfl
                        have e9 : a.tmps[120]?.getD undef = _ := (Array.getD_eq_getD_getElem? ..).symm.trans d9
                        have d13 : a.tmps.getD 124 undef = .bool false := dep 13 _ _ (by kernel_rfl) rfl rfl
                        have e13 : a.tmps[124]?.getD undef = _ := (Array.getD_eq_getD_getElem? ..).symm.trans d13
                        rw [if_pos (wanted_none rfl)]
                        refine grow_same (v := .bool false) ?_ rfl
                        clear old dep ho hsz hb
                        go_simp
                      | 15, ho =>
                        obtain rfl := Option.some.inj ho
                        have d14 : a.tmps.getD 125 undef = .bool false := dep 14 _ _ (by kernel_rfl) rfl rfl
                        have e14 : a.tmps[125]?.getD undef = _ := (Array.getD_eq_getD_getElem? ..).symm.trans d14
                        rw [if_pos (wanted_none rfl)]
                        refine grow_same (v := .bool false) ?_ rfl
                        clear old dep ho hsz hb
                        go_simp
                      | 16, ho =>
                        obtain rfl := Option.some.inj ho
                        have o7 : a.tmps.getD 7 undef = _ := old 7 (by kernel_rfl)
                        have d15 : a.tmps.getD 126 undef = .bool false := dep 15 _ _ (by kernel_rfl) rfl rfl
                        have e15 : a.tmps[126]?.getD undef = _ := (Array.getD_eq_getD_getElem? ..).symm.trans d15
                        rw [if_pos (wanted_some rfl rfl rfl (by rw [hsz]; exact of_decide_eq_true rfl) d15)]
                        refine grow_same (v := .int .i64 0) ?_ rfl
                        clear old dep ho hsz hb
                        go_simp
                      | 17, ho =>
                        obtain rfl := Option.some.inj ho
                        have d16 : a.tmps.getD 127 undef = .int .i64 0 := dep 16 _ _ (by kernel_rfl) rfl rfl
                        have e16 : a.tmps[127]?.getD undef = _ := (Array.getD_eq_getD_getElem? ..).symm.trans d16
                        have d15 : a.tmps.getD 126 undef = .bool false := dep 15 _ _ (by kernel_rfl) rfl rfl
                        have e15 : a.tmps[126]?.getD undef = _ := (Array.getD_eq_getD_getElem? ..).symm.trans d15
                        rw [if_pos (wanted_some rfl rfl rfl (by rw [hsz]; exact of_decide_eq_true rfl) d15)]
                        refine grow_same (v := .bool false) ?_ rfl
                        clear old dep ho hsz hb
                        go_simp
                      | 18, ho =>
                        obtain rfl := Option.some.inj ho
                        have d17 : a.tmps.getD 128 undef = .bool false := dep 17 _ _ (by kernel_rfl) rfl rfl
                        have e17 : a.tmps[128]?.getD undef = _ := (Array.getD_eq_getD_getElem? ..).symm.trans d17
                        have d15 : a.tmps.getD 126 undef = .bool false := dep 15 _ _ (by kernel_rfl) rfl rfl
                        have e15 : a.tmps[126]?.getD undef = _ := (Array.getD_eq_getD_getElem? ..).symm.trans d15
                        rw [if_pos (wanted_some rfl rfl rfl (by rw [hsz]; exact of_decide_eq_true rfl) d15)]
                        refine grow_same (v := .bool false) ?_ rfl
                        clear old dep ho hsz hb
                        go_simp
                      | 19, ho =>
                        obtain rfl := Option.some.inj ho
                        have d18 : a.tmps.getD 129 undef = .bool false := dep 18 _ _ (by kernel_rfl) rfl rfl
                        have e18 : a.tmps[129]?.getD undef = _ := (Array.getD_eq_getD_getElem? ..).symm.trans d18
                        rw [if_neg (wanted_not rfl rfl rfl (by rw [hsz]; exact of_decide_eq_true rfl) d18 rfl)]
                        exact rfl
                      | 20, ho =>
                        obtain rfl := Option.some.inj ho
                        have d18 : a.tmps.getD 129 undef = .bool false := dep 18 _ _ (by kernel_rfl) rfl rfl
                        have e18 : a.tmps[129]?.getD undef = _ := (Array.getD_eq_getD_getElem? ..).symm.trans d18
                        rw [if_neg (wanted_not rfl rfl rfl (by rw [hsz]; exact of_decide_eq_true rfl) d18 rfl)]
                        exact rfl
                      | 21, ho =>
                        obtain rfl := Option.some.inj ho
                        have d18 : a.tmps.getD 129 undef = .bool false := dep 18 _ _ (by kernel_rfl) rfl rfl
                        have e18 : a.tmps[129]?.getD undef = _ := (Array.getD_eq_getD_getElem? ..).symm.trans d18
                        rw [if_neg (wanted_not rfl rfl rfl (by rw [hsz]; exact of_decide_eq_true rfl) d18 rfl)]
                        exact rfl
                      | 22, ho =>
                        obtain rfl := Option.some.inj ho
                        have d18 : a.tmps.getD 129 undef = .bool false := dep 18 _ _ (by kernel_rfl) rfl rfl
                        have e18 : a.tmps[129]?.getD undef = _ := (Array.getD_eq_getD_getElem? ..).symm.trans d18
                        rw [if_neg (wanted_not rfl rfl rfl (by rw [hsz]; exact of_decide_eq_true rfl) d18 rfl)]
                        exact rfl
                      | 23, ho =>
                        obtain rfl := Option.some.inj ho
                        have d18 : a.tmps.getD 129 undef = .bool false := dep 18 _ _ (by kernel_rfl) rfl rfl
                        have e18 : a.tmps[129]?.getD undef = _ := (Array.getD_eq_getD_getElem? ..).symm.trans d18
                        rw [if_neg (wanted_not rfl rfl rfl (by rw [hsz]; exact of_decide_eq_true rfl) d18 rfl)]
                        exact rfl
                      | 24, ho =>
                        obtain rfl := Option.some.inj ho
                        have d18 : a.tmps.getD 129 undef = .bool false := dep 18 _ _ (by kernel_rfl) rfl rfl
                        have e18 : a.tmps[129]?.getD undef = _ := (Array.getD_eq_getD_getElem? ..).symm.trans d18
                        rw [if_neg (wanted_not rfl rfl rfl (by rw [hsz]; exact of_decide_eq_true rfl) d18 rfl)]
                        exact rfl
                      | 25, ho =>
                        obtain rfl := Option.some.inj ho
                        have d18 : a.tmps.getD 129 undef = .bool false := dep 18 _ _ (by kernel_rfl) rfl rfl
                        have e18 : a.tmps[129]?.getD undef = _ := (Array.getD_eq_getD_getElem? ..).symm.trans d18
                        rw [if_neg (wanted_not rfl rfl rfl (by rw [hsz]; exact of_decide_eq_true rfl) d18 rfl)]
                        exact rfl
                      | 26, ho =>
                        obtain rfl := Option.some.inj ho
                        have d18 : a.tmps.getD 129 undef = .bool false := dep 18 _ _ (by kernel_rfl) rfl rfl
                        have e18 : a.tmps[129]?.getD undef = _ := (Array.getD_eq_getD_getElem? ..).symm.trans d18
                        rw [if_neg (wanted_not rfl rfl rfl (by rw [hsz]; exact of_decide_eq_true rfl) d18 rfl)]
                        exact rfl
                      | 27, ho =>
                        obtain rfl := Option.some.inj ho
                        have d18 : a.tmps.getD 129 undef = .bool false := dep 18 _ _ (by kernel_rfl) rfl rfl
                        have e18 : a.tmps[129]?.getD undef = _ := (Array.getD_eq_getD_getElem? ..).symm.trans d18
                        have d26 : a.tmps.getD 137 undef = undef := dep 26 _ _ (by kernel_rfl) rfl rfl
                        have e26 : a.tmps[137]?.getD undef = _ := (Array.getD_eq_getD_getElem? ..).symm.trans d26
                        have d15 : a.tmps.getD 126 undef = .bool false := dep 15 _ _ (by kernel_rfl) rfl rfl
                        have e15 : a.tmps[126]?.getD undef = _ := (Array.getD_eq_getD_getElem? ..).symm.trans d15
                        rw [if_pos (wanted_some rfl rfl rfl (by rw [hsz]; exact of_decide_eq_true rfl) d15)]
                        refine grow_same (v := .bool false) ?_ rfl
                        clear old dep ho hsz hb
                        go_simp
                      | 28, ho =>
                        obtain rfl := Option.some.inj ho
                        have d15 : a.tmps.getD 126 undef = .bool false := dep 15 _ _ (by kernel_rfl) rfl rfl
                        have e15 : a.tmps[126]?.getD undef = _ := (Array.getD_eq_getD_getElem? ..).symm.trans d15
                        have d27 : a.tmps.getD 138 undef = .bool false := dep 27 _ _ (by kernel_rfl) rfl rfl
                        have e27 : a.tmps[138]?.getD undef = _ := (Array.getD_eq_getD_getElem? ..).symm.trans d27
                        rw [if_pos (wanted_none rfl)]
                        refine grow_same (v := .bool false) ?_ rfl
                        clear old dep ho hsz hb
                        go_simp
                      | i + 29, ho => exact absurd ho (by simp)
                    · intro a w7 hb hsz hdf fin keep
                      obtain ⟨tm, df⟩ := a
                      have hx := frame_of [111, 112, 113, 114, 115, 116, 117, 118, 119, 120, 121, 122, 123, 124, 125, 126, 127, 128, 129, 130, 131, 132, 133, 134, 135, 136, 137, 138, 139] (by kernel_rfl) hsz keep
                      dsimp only at hdf hx
                      simp only [List.foldl_cons, List.foldl_nil] at hx
                      subst hdf
                      clear hsz keep
                      have kn : tm.getD 111 undef = .pointer (some ⟨bx, 0, none⟩) := fin 0 _ _ rfl rfl
                      rw [kn] at hx
                      clear kn
                      have kn : tm.getD 112 undef = .int .i64 (t.toNat : Int) := fin 1 _ _ rfl rfl
                      rw [kn] at hx
                      clear kn
                      have kn : tm.getD 113 undef = .bool false := fin 2 _ _ rfl rfl
                      rw [kn] at hx
                      clear kn
                      have kn : tm.getD 114 undef = .bool false := fin 3 _ _ rfl rfl
                      rw [kn] at hx
                      clear kn
                      have kn : tm.getD 115 undef = .pointer (some ⟨bx, 1, none⟩) := fin 4 _ _ rfl rfl
                      rw [kn] at hx
                      clear kn
                      have kn : tm.getD 116 undef = .string ks := fin 5 _ _ rfl rfl
                      rw [kn] at hx
                      clear kn
                      have kn : tm.getD 117 undef = .int .i64 (ks.size : Int) := fin 6 _ _ rfl rfl
                      rw [kn] at hx
                      clear kn
                      have kn : tm.getD 118 undef = .bool false := fin 7 _ _ rfl rfl
                      rw [kn] at hx
                      clear kn
                      have kn : tm.getD 119 undef = .bool false := fin 8 _ _ rfl rfl
                      rw [kn] at hx
                      clear kn
                      have kn : tm.getD 120 undef = .bool false := fin 9 _ _ rfl rfl
                      rw [kn] at hx
                      clear kn
                      have kn : tm.getD 121 undef = .pointer (some ⟨bx, 2, none⟩) := fin 10 _ _ rfl rfl
                      rw [kn] at hx
                      clear kn
                      have kn : tm.getD 122 undef = .string vs := fin 11 _ _ rfl rfl
                      rw [kn] at hx
                      clear kn
                      have kn : tm.getD 123 undef = .int .i64 (vs.size : Int) := fin 12 _ _ rfl rfl
                      rw [kn] at hx
                      clear kn
                      have kn : tm.getD 124 undef = .bool false := fin 13 _ _ rfl rfl
                      rw [kn] at hx
                      clear kn
                      have kn : tm.getD 125 undef = .bool false := fin 14 _ _ rfl rfl
                      rw [kn] at hx
                      clear kn
                      have kn : tm.getD 126 undef = .bool false := fin 15 _ _ rfl rfl
                      rw [kn] at hx
                      clear kn
                      have kn : tm.getD 127 undef = .int .i64 0 := fin 16 _ _ rfl rfl
                      rw [kn] at hx
                      clear kn
                      have kn : tm.getD 128 undef = .bool false := fin 17 _ _ rfl rfl
                      rw [kn] at hx
                      clear kn
                      have kn : tm.getD 129 undef = .bool false := fin 18 _ _ rfl rfl
                      rw [kn] at hx
                      clear kn
                      have kn : tm.getD 130 undef = undef := fin 19 _ _ rfl rfl
                      rw [kn] at hx
                      clear kn
                      have kn : tm.getD 131 undef = undef := fin 20 _ _ rfl rfl
                      rw [kn] at hx
                      clear kn
                      have kn : tm.getD 132 undef = undef := fin 21 _ _ rfl rfl
                      rw [kn] at hx
                      clear kn
                      have kn : tm.getD 133 undef = undef := fin 22 _ _ rfl rfl
                      rw [kn] at hx
                      clear kn
                      have kn : tm.getD 134 undef = undef := fin 23 _ _ rfl rfl
                      rw [kn] at hx
                      clear kn
                      have kn : tm.getD 135 undef = undef := fin 24 _ _ rfl rfl
                      rw [kn] at hx
                      clear kn
                      have kn : tm.getD 136 undef = undef := fin 25 _ _ rfl rfl
                      rw [kn] at hx
                      clear kn
                      have kn : tm.getD 137 undef = undef := fin 26 _ _ rfl rfl
                      rw [kn] at hx
                      clear kn
                      have kn : tm.getD 138 undef = .bool false := fin 27 _ _ rfl rfl
                      rw [kn] at hx
                      clear kn
                      have kn : tm.getD 139 undef = .bool false := fin 28 _ _ rfl rfl
                      rw [kn] at hx
                      clear kn
                      clear fin
                      simp only [List.setIfInBounds_toArray, List.set_cons_succ, List.set_cons_zero] at hx
                      subst hx
                      have hs7 := HS6.out.below hb
                      obtain ⟨v9, w9, hrun, hs9⟩ := hs7.addK (i := 0) (x := ⟨(t.toNat : Int), ks, vs⟩) (cs := #[.int .i64 (t.toNat : Int), .string ks, .string vs]) rfl rfl (by have := HLA.out; omega) 22
                      obtain ⟨A9, c9, e9⟩ := (hs9.krow (i := 0) rfl).form
                      generalize List.length _ = n9 at e9
                      subst e9
                      have HR := hide hrun
                      have S9 := hide hs9
                      have x0 := (hs7.blk (i := 1) rfl).cell 0 _ rfl
                      have x1 := (hs7.blk (i := 1) rfl).cell 1 _ rfl
                      have x2 := (hs7.blk (i := 1) rfl).cell 2 _ rfl
                      clear hrun hs9 hs7 hb
                      go_wp2_with (at_builtin; refine wpList_app (u := .slice (some ⟨w7.heap.size, 0, none⟩) 1 1) (by first | rfl | simp [Region.wanted, yielded]) (.tmp 140) (.tmp 142) 22 rfl rfl rfl HR.out ?_)
                      go_roundw
                      case rel => exact ⟨0 + 1, p3, A9, n9, c9, [] ++ [(⟨(t.toNat : Int), ks, vs⟩ : Rw)], by have := HLT.out; omega, by go_num, by go_num, rfl, HW3, hide (by have := HJ.out; rw [List.length_append, List.length_singleton]; omega), hide (show Ow w (fun _ => False) w9 [Res.row rwK (.slice A9 n9 c9) ([] ++ [(⟨(t.toNat : Int), ks, vs⟩ : Rw)])] from S9.out.take 1)⟩
                      case measure => simp [intOf]; have := HLT.out; omega
                  | succ i0 =>
                    have hacc : acc.length = i0 + 1 := HJ.out
                    obtain ⟨y, hy⟩ : ∃ y, acc[i0]? = some y := ⟨_, List.getElem?_eq_getElem (by omega)⟩
                    obtain ⟨gr, cr, er, _⟩ := (HS6.out.krow (i := 0) rfl).block (by omega)
                    injection er with er1 er2 er3
                    subst er1 er2 er3
                    obtain ⟨y0, y1, y2⟩ := row_at (HS6.out.krow (i := 0) rfl) hy
                    have HGR : Hid (gr < w6.heap.size) := hide ((HS6.out.krow (i := 0) rfl).lt gr rfl)
                    have HLASTY : Hid (acc.getLast? = some y) := hide (by rw [List.getLast?_eq_getElem?, hacc]; exact hy)
                    have HLS := hide (fun w => rless_any y.t (t.toNat : Int) y.k y.v ks vs w)
                    have z0 : (0 : Int) ≤ (i0 : Int) + 1 := by omega
                    have z1 : (i0 : Int) < (acc.length : Int) := by omega
                    have z2 : (0 : Int) < (i0 : Int) + 1 := by omega
                    have z4 : (0 : Int) ≤ (i0 : Int) := by omega
                    have z5 : (i0 : Int) + 1 - 1 = (i0 : Int) := by omega
                    have z7 : IntKind.i64.wrap ((i0 : Int) + 1 - 1) = (i0 : Int) := by rw [IntKind.wrap_i64]; omega
                    have z8 : IntKind.i64.wrap (i0 : Int) = (i0 : Int) := by rw [IntKind.wrap_i64]; omega
                    have HACC := hide hacc
                    clear hy hacc
                    cases hls : lessB y.t y.k (t.toNat : Int) ks
                    · have HBAD : Hid (∀ l, ¬ PortOf b l) := hide (fun l h => by
                        have h2 := HW.out.bad h (HNX.out l h) HFX.out HROW.out
                        have h3 := (Ris.snoc.1 h2).2.2 y HLASTY.out
                        unfold lessR at h3
                        rw [hls] at h3
                        cases h3)
                      rw [hls] at HLS
                      clear hls
                      refine region_grows [Say.is (.pointer (some ⟨bx, 0, none⟩)), Say.is (.int .i64 (t.toNat : Int)), Say.is (.bool false), Say.is (.bool false), Say.is (.pointer (some ⟨bx, 1, none⟩)), Say.is (.string ks), Say.is (.int .i64 (ks.size : Int)), Say.is (.bool false), Say.is (.bool false), Say.is (.bool false), Say.is (.pointer (some ⟨bx, 2, none⟩)), Say.is (.string vs), Say.is (.int .i64 (vs.size : Int)), Say.is (.bool false), Say.is (.bool false), Say.is (.bool false), Say.is (.int .i64 ((i0 : Int) + 1)), Say.is (.bool true), Say.is (.bool true), Say.is (.slice (some ⟨gr, 0, none⟩) acc.length c3), Say.is (.int .i64 ((i0 : Int) + 1)), Say.is (.int .i64 (i0 : Int)), Say.is (.pointer (some ⟨gr, i0 * 3, none⟩)), Say.is (.agg #[.int .i64 y.t, .string y.k, .string y.v]), Say.is (.agg #[.int .i64 (t.toNat : Int), .string ks, .string vs]), Say.is (.bool false), Say.is (.bool true), Say.is (.bool true), Say.is (.bool true)] (by kernel_rfl) (by kernel_rfl) (by kernel_rfl) (by kernel_rfl) ?_ ?_
                      · intro i o ho a w2 hb hsz old dep
                        match i, ho with
                        | 0, ho =>
                          obtain rfl := Option.some.inj ho
                          have o8 : a.tmps.getD 8 undef = _ := old 8 (by kernel_rfl)
                          rw [if_pos (wanted_none rfl)]
                          refine grow_same (v := .pointer (some ⟨bx, 0, none⟩)) ?_ rfl
                          clear old dep ho hsz hb
                          go_simp
                        | 1, ho =>
                          obtain rfl := Option.some.inj ho
                          have d0 : a.tmps.getD 111 undef = .pointer (some ⟨bx, 0, none⟩) := dep 0 _ _ (by kernel_rfl) rfl rfl
                          have e0 : a.tmps[111]?.getD undef = _ := (Array.getD_eq_getD_getElem? ..).symm.trans d0
                          rw [if_pos (wanted_none rfl)]
                          have g0 := (hb.cell (p := ⟨bx, 0, none⟩) HBX.out).trans x0
                          refine grow_same (v := .int .i64 (t.toNat : Int)) ?_ rfl
                          clear old dep ho hsz hb
                          go_simp
                        | 2, ho =>
                          obtain rfl := Option.some.inj ho
                          have d1 : a.tmps.getD 112 undef = .int .i64 (t.toNat : Int) := dep 1 _ _ (by kernel_rfl) rfl rfl
                          have e1 : a.tmps[112]?.getD undef = _ := (Array.getD_eq_getD_getElem? ..).symm.trans d1
                          rw [if_pos (wanted_none rfl)]
                          refine grow_same (v := .bool false) ?_ rfl
                          clear old dep ho hsz hb
                          go_simp
                        | 3, ho =>
                          obtain rfl := Option.some.inj ho
                          have d2 : a.tmps.getD 113 undef = .bool false := dep 2 _ _ (by kernel_rfl) rfl rfl
                          have e2 : a.tmps[113]?.getD undef = _ := (Array.getD_eq_getD_getElem? ..).symm.trans d2
                          rw [if_pos (wanted_none rfl)]
                          refine grow_same (v := .bool false) ?_ rfl
                          clear old dep ho hsz hb
                          go_simp
                        | 4, ho =>
                          obtain rfl := Option.some.inj ho
                          have o8 : a.tmps.getD 8 undef = _ := old 8 (by kernel_rfl)
                          have d3 : a.tmps.getD 114 undef = .bool false := dep 3 _ _ (by kernel_rfl) rfl rfl
                          have e3 : a.tmps[114]?.getD undef = _ := (Array.getD_eq_getD_getElem? ..).symm.trans d3
                          rw [if_pos (wanted_some rfl rfl rfl (by rw [hsz]; exact of_decide_eq_true rfl) d3)]
                          refine grow_same (v := .pointer (some ⟨bx, 1, none⟩)) ?_ rfl
                          clear old dep ho hsz hb
                          go_simp
                        | 5, ho =>
                          obtain rfl := Option.some.inj ho
                          have d4 : a.tmps.getD 115 undef = .pointer (some ⟨bx, 1, none⟩) := dep 4 _ _ (by kernel_rfl) rfl rfl
                          have e4 : a.tmps[115]?.getD undef = _ := (Array.getD_eq_getD_getElem? ..).symm.trans d4
                          have d3 : a.tmps.getD 114 undef = .bool false := dep 3 _ _ (by kernel_rfl) rfl rfl
                          have e3 : a.tmps[114]?.getD undef = _ := (Array.getD_eq_getD_getElem? ..).symm.trans d3
                          rw [if_pos (wanted_some rfl rfl rfl (by rw [hsz]; exact of_decide_eq_true rfl) d3)]
                          have g0 := (hb.cell (p := ⟨bx, 1, none⟩) HBX.out).trans x1
                          refine grow_same (v := .string ks) ?_ rfl
                          clear old dep ho hsz hb
                          go_simp
                        | 6, ho =>
                          obtain rfl := Option.some.inj ho
                          have d5 : a.tmps.getD 116 undef = .string ks := dep 5 _ _ (by kernel_rfl) rfl rfl
                          have e5 : a.tmps[116]?.getD undef = _ := (Array.getD_eq_getD_getElem? ..).symm.trans d5
                          have d3 : a.tmps.getD 114 undef = .bool false := dep 3 _ _ (by kernel_rfl) rfl rfl
                          have e3 : a.tmps[114]?.getD undef = _ := (Array.getD_eq_getD_getElem? ..).symm.trans d3
                          rw [if_pos (wanted_some rfl rfl rfl (by rw [hsz]; exact of_decide_eq_true rfl) d3)]
                          refine grow_same (v := .int .i64 (ks.size : Int)) ?_ rfl
                          clear old dep ho hsz hb
                          go_simp
                        | 7, ho =>
                          obtain rfl := Option.some.inj ho
                          have d6 : a.tmps.getD 117 undef = .int .i64 (ks.size : Int) := dep 6 _ _ (by kernel_rfl) rfl rfl
                          have e6 : a.tmps[117]?.getD undef = _ := (Array.getD_eq_getD_getElem? ..).symm.trans d6
                          have d3 : a.tmps.getD 114 undef = .bool false := dep 3 _ _ (by kernel_rfl) rfl rfl
                          have e3 : a.tmps[114]?.getD undef = _ := (Array.getD_eq_getD_getElem? ..).symm.trans d3
                          rw [if_pos (wanted_some rfl rfl rfl (by rw [hsz]; exact of_decide_eq_true rfl) d3)]
                          refine grow_same (v := .bool false) ?_ rfl
                          clear old dep ho hsz hb
                          go_simp
                        | 8, ho =>
                          obtain rfl := Option.some.inj ho
                          have d3 : a.tmps.getD 114 undef = .bool false := dep 3 _ _ (by kernel_rfl) rfl rfl
                          have e3 : a.tmps[114]?.getD undef = _ := (Array.getD_eq_getD_getElem? ..).symm.trans d3
                          have d7 : a.tmps.getD 118 undef = .bool false := dep 7 _ _ (by kernel_rfl) rfl rfl
                          have e7 : a.tmps[118]?.getD undef = _ := (Array.getD_eq_getD_getElem? ..).symm.trans d7
                          rw [if_pos (wanted_none rfl)]
                          refine grow_same (v := .bool false) ?_ rfl
                          clear old dep ho hsz hb
                          go_simp
                        | 9, ho =>
                          obtain rfl := Option.some.inj ho
                          have d8 : a.tmps.getD 119 undef = .bool false := dep 8 _ _ (by kernel_rfl) rfl rfl
                          have e8 : a.tmps[119]?.getD undef = _ := (Array.getD_eq_getD_getElem? ..).symm.trans d8
                          rw [if_pos (wanted_none rfl)]
                          refine grow_same (v := .bool false) ?_ rfl
                          clear old dep ho hsz hb
                          go_simp
                        | 10, ho =>
                          obtain rfl := Option.some.inj ho
                          have o8 : a.tmps.getD 8 undef = _ := old 8 (by kernel_rfl)
                          have d9 : a.tmps.getD 120 undef = .bool false := dep 9 _ _ (by kernel_rfl) rfl rfl
                          have e9 : a.tmps[120]?.getD undef = _ := (Array.getD_eq_getD_getElem? ..).symm.trans d9
                          rw [if_pos (wanted_some rfl rfl rfl (by rw [hsz]; exact of_decide_eq_true rfl) d9)]
                          refine grow_same (v := .pointer (some ⟨bx, 2, none⟩)) ?_ rfl
                          clear old dep ho hsz hb
                          go_simp
                        | 11, ho =>
                          obtain rfl := Option.some.inj ho
                          have d10 : a.tmps.getD 121 undef = .pointer (some ⟨bx, 2, none⟩) := dep 10 _ _ (by kernel_rfl) rfl rfl
                          have e10 : a.tmps[121]?.getD undef = _ := (Array.getD_eq_getD_getElem? ..).symm.trans d10
                          have d9 : a.tmps.getD 120 undef = .bool false := dep 9 _ _ (by kernel_rfl) rfl rfl
                          have e9 : a.tmps[120]?.getD undef = _ := (Array.getD_eq_getD_getElem? ..).symm.trans d9
                          rw [if_pos (wanted_some rfl rfl rfl (by rw [hsz]; exact of_decide_eq_true rfl) d9)]
                          have g0 := (hb.cell (p := ⟨bx, 2, none⟩) HBX.out).trans x2
                          refine grow_same (v := .string vs) ?_ rfl
                          clear old dep ho hsz hb
                          go_simp
                        | 12, ho =>
                          obtain rfl := Option.some.inj ho
                          have d11 : a.tmps.getD 122 undef = .string vs := dep 11 _ _ (by kernel_rfl) rfl rfl
                          have e11 : a.tmps[122]?.getD undef = _ := (Array.getD_eq_getD_getElem? ..).symm.trans d11
                          have d9 : a.tmps.getD 120 undef = .bool false := dep 9 _ _ (by kernel_rfl) rfl rfl
                          have e9 : a.tmps[120]?.getD undef = _ := (Array.getD_eq_getD_getElem? ..).symm.trans d9
                          rw [if_pos (wanted_some rfl rfl rfl (by rw [hsz]; exact of_decide_eq_true rfl) d9)]
                          refine grow_same (v := .int .i64 (vs.size : Int)) ?_ rfl
                          clear old dep ho hsz hb
                          go_simp
                        | 13, ho =>
                          obtain rfl := Option.some.inj ho
                          have d12 : a.tmps.getD 123 undef = .int .i64 (vs.size : Int) := dep 12 _ _ (by kernel_rfl) rfl rfl
                          have e12 : a.tmps[123]?.getD undef = _ := (Array.getD_eq_getD_getElem? ..).symm.trans d12
                          have d9 : a.tmps.getD 120 undef = .bool false := dep 9 _ _ (by kernel_rfl) rfl rfl
                          have e9 : a.tmps[120]?.getD undef = _ := (Array.getD_eq_getD_getElem? ..).symm.trans d9
                          rw [if_pos (wanted_some rfl rfl rfl (by rw [hsz]; exact of_decide_eq_true rfl) d9)]
                          refine grow_same (v := .bool false) ?_ rfl
                          clear old dep ho hsz hb
                          go_simp
                        | 14, ho =>
                          obtain rfl := Option.some.inj ho
                          have d9 : a.tmps.getD 120 undef = .bool false := dep 9 _ _ (by kernel_rfl) rfl rfl
                          have e9 : a.tmps[120]?.getD undef = _ := (Array.getD_eq_getD_getElem? ..).symm.trans d9
                          have d13 : a.tmps.getD 124 undef = .bool false := dep 13 _ _ (by kernel_rfl) rfl rfl
                          have e13 : a.tmps[124]?.getD undef = _ := (Array.getD_eq_getD_getElem? ..).symm.trans d13
                          rw [if_pos (wanted_none rfl)]
                          refine grow_same (v := .bool false) ?_ rfl
                          clear old dep ho hsz hb
                          go_simp
                        | 15, ho =>
                          obtain rfl := Option.some.inj ho
                          have d14 : a.tmps.getD 125 undef = .bool false := dep 14 _ _ (by kernel_rfl) rfl rfl
                          have e14 : a.tmps[125]?.getD undef = _ := (Array.getD_eq_getD_getElem? ..).symm.trans d14
                          rw [if_pos (wanted_none rfl)]
                          refine grow_same (v := .bool false) ?_ rfl
                          clear old dep ho hsz hb
                          go_simp
                        | 16, ho =>
                          obtain rfl := Option.some.inj ho
                          have o7 : a.tmps.getD 7 undef = _ := old 7 (by kernel_rfl)
                          have d15 : a.tmps.getD 126 undef = .bool false := dep 15 _ _ (by kernel_rfl) rfl rfl
                          have e15 : a.tmps[126]?.getD undef = _ := (Array.getD_eq_getD_getElem? ..).symm.trans d15
                          rw [if_pos (wanted_some rfl rfl rfl (by rw [hsz]; exact of_decide_eq_true rfl) d15)]
                          refine grow_same (v := .int .i64 ((i0 : Int) + 1)) ?_ rfl
                          clear old dep ho hsz hb
                          go_simp
                        | 17, ho =>
                          obtain rfl := Option.some.inj ho
                          have d16 : a.tmps.getD 127 undef = .int .i64 ((i0 : Int) + 1) := dep 16 _ _ (by kernel_rfl) rfl rfl
                          have e16 : a.tmps[127]?.getD undef = _ := (Array.getD_eq_getD_getElem? ..).symm.trans d16
                          have d15 : a.tmps.getD 126 undef = .bool false := dep 15 _ _ (by kernel_rfl) rfl rfl
                          have e15 : a.tmps[126]?.getD undef = _ := (Array.getD_eq_getD_getElem? ..).symm.trans d15
                          rw [if_pos (wanted_some rfl rfl rfl (by rw [hsz]; exact of_decide_eq_true rfl) d15)]
                          refine grow_same (v := .bool true) ?_ rfl
                          clear old dep ho hsz hb
                          go_simp
                        | 18, ho =>
                          obtain rfl := Option.some.inj ho
                          have d17 : a.tmps.getD 128 undef = .bool true := dep 17 _ _ (by kernel_rfl) rfl rfl
                          have e17 : a.tmps[128]?.getD undef = _ := (Array.getD_eq_getD_getElem? ..).symm.trans d17
                          have d15 : a.tmps.getD 126 undef = .bool false := dep 15 _ _ (by kernel_rfl) rfl rfl
                          have e15 : a.tmps[126]?.getD undef = _ := (Array.getD_eq_getD_getElem? ..).symm.trans d15
                          rw [if_pos (wanted_some rfl rfl rfl (by rw [hsz]; exact of_decide_eq_true rfl) d15)]
                          refine grow_same (v := .bool true) ?_ rfl
                          clear old dep ho hsz hb
                          go_simp
                        | 19, ho =>
                          obtain rfl := Option.some.inj ho
                          have o6 : a.tmps.getD 6 undef = _ := old 6 (by kernel_rfl)
                          have d18 : a.tmps.getD 129 undef = .bool true := dep 18 _ _ (by kernel_rfl) rfl rfl
                          have e18 : a.tmps[129]?.getD undef = _ := (Array.getD_eq_getD_getElem? ..).symm.trans d18
                          rw [if_pos (wanted_some rfl rfl rfl (by rw [hsz]; exact of_decide_eq_true rfl) d18)]
                          refine grow_same (v := .slice (some ⟨gr, 0, none⟩) acc.length c3) ?_ rfl
                          clear old dep ho hsz hb
                          go_simp
                        | 20, ho =>
                          obtain rfl := Option.some.inj ho
                          have o7 : a.tmps.getD 7 undef = _ := old 7 (by kernel_rfl)
                          have d18 : a.tmps.getD 129 undef = .bool true := dep 18 _ _ (by kernel_rfl) rfl rfl
                          have e18 : a.tmps[129]?.getD undef = _ := (Array.getD_eq_getD_getElem? ..).symm.trans d18
                          rw [if_pos (wanted_some rfl rfl rfl (by rw [hsz]; exact of_decide_eq_true rfl) d18)]
                          refine grow_same (v := .int .i64 ((i0 : Int) + 1)) ?_ rfl
                          clear old dep ho hsz hb
                          go_simp
                        | 21, ho =>
                          obtain rfl := Option.some.inj ho
                          have d20 : a.tmps.getD 131 undef = .int .i64 ((i0 : Int) + 1) := dep 20 _ _ (by kernel_rfl) rfl rfl
                          have e20 : a.tmps[131]?.getD undef = _ := (Array.getD_eq_getD_getElem? ..).symm.trans d20
                          have d18 : a.tmps.getD 129 undef = .bool true := dep 18 _ _ (by kernel_rfl) rfl rfl
                          have e18 : a.tmps[129]?.getD undef = _ := (Array.getD_eq_getD_getElem? ..).symm.trans d18
                          rw [if_pos (wanted_some rfl rfl rfl (by rw [hsz]; exact of_decide_eq_true rfl) d18)]
                          refine grow_same (v := .int .i64 (i0 : Int)) ?_ rfl
                          clear old dep ho hsz hb
                          go_simp
                        | 22, ho =>
                          obtain rfl := Option.some.inj ho
                          have d19 : a.tmps.getD 130 undef = .slice (some ⟨gr, 0, none⟩) acc.length c3 := dep 19 _ _ (by kernel_rfl) rfl rfl
                          have e19 : a.tmps[130]?.getD undef = _ := (Array.getD_eq_getD_getElem? ..).symm.trans d19
                          have d21 : a.tmps.getD 132 undef = .int .i64 (i0 : Int) := dep 21 _ _ (by kernel_rfl) rfl rfl
                          have e21 : a.tmps[132]?.getD undef = _ := (Array.getD_eq_getD_getElem? ..).symm.trans d21
                          have d18 : a.tmps.getD 129 undef = .bool true := dep 18 _ _ (by kernel_rfl) rfl rfl
                          have e18 : a.tmps[129]?.getD undef = _ := (Array.getD_eq_getD_getElem? ..).symm.trans d18
                          rw [if_pos (wanted_some rfl rfl rfl (by rw [hsz]; exact of_decide_eq_true rfl) d18)]
                          refine grow_same (v := .pointer (some ⟨gr, i0 * 3, none⟩)) ?_ rfl
                          clear old dep ho hsz hb
                          go_simp
                        | 23, ho =>
                          obtain rfl := Option.some.inj ho
                          have d22 : a.tmps.getD 133 undef = .pointer (some ⟨gr, i0 * 3, none⟩) := dep 22 _ _ (by kernel_rfl) rfl rfl
                          have e22 : a.tmps[133]?.getD undef = _ := (Array.getD_eq_getD_getElem? ..).symm.trans d22
                          have d18 : a.tmps.getD 129 undef = .bool true := dep 18 _ _ (by kernel_rfl) rfl rfl
                          have e18 : a.tmps[129]?.getD undef = _ := (Array.getD_eq_getD_getElem? ..).symm.trans d18
                          rw [if_pos (wanted_some rfl rfl rfl (by rw [hsz]; exact of_decide_eq_true rfl) d18)]
                          have g0 := (hb.cell (p := ⟨gr, i0 * 3, none⟩) HGR.out).trans y0
                          have g1 := (hb.cell (p := ⟨gr, i0 * 3 + 1, none⟩) HGR.out).trans y1
                          have g2 := (hb.cell (p := ⟨gr, i0 * 3 + 2, none⟩) HGR.out).trans y2
                          refine grow_same (v := .agg #[.int .i64 y.t, .string y.k, .string y.v]) ?_ rfl
                          clear old dep ho hsz hb
                          go_simp
                        | 24, ho =>
                          obtain rfl := Option.some.inj ho
                          have o8 : a.tmps.getD 8 undef = _ := old 8 (by kernel_rfl)
                          have d18 : a.tmps.getD 129 undef = .bool true := dep 18 _ _ (by kernel_rfl) rfl rfl
                          have e18 : a.tmps[129]?.getD undef = _ := (Array.getD_eq_getD_getElem? ..).symm.trans d18
                          rw [if_pos (wanted_some rfl rfl rfl (by rw [hsz]; exact of_decide_eq_true rfl) d18)]
                          have g0 := (hb.cell (p := ⟨bx, 0, none⟩) HBX.out).trans x0
                          have g1 := (hb.cell (p := ⟨bx, 1, none⟩) HBX.out).trans x1
                          have g2 := (hb.cell (p := ⟨bx, 2, none⟩) HBX.out).trans x2
                          refine grow_same (v := .agg #[.int .i64 (t.toNat : Int), .string ks, .string vs]) ?_ rfl
                          clear old dep ho hsz hb
                          go_simp
                        | 25, ho =>
                          obtain rfl := Option.some.inj ho
                          have d23 : a.tmps.getD 134 undef = .agg #[.int .i64 y.t, .string y.k, .string y.v] := dep 23 _ _ (by kernel_rfl) rfl rfl
                          have e23 : a.tmps[134]?.getD undef = _ := (Array.getD_eq_getD_getElem? ..).symm.trans d23
                          have d24 : a.tmps.getD 135 undef = .agg #[.int .i64 (t.toNat : Int), .string ks, .string vs] := dep 24 _ _ (by kernel_rfl) rfl rfl
                          have e24 : a.tmps[135]?.getD undef = _ := (Array.getD_eq_getD_getElem? ..).symm.trans d24
                          have d18 : a.tmps.getD 129 undef = .bool true := dep 18 _ _ (by kernel_rfl) rfl rfl
                          have e18 : a.tmps[129]?.getD undef = _ := (Array.getD_eq_getD_getElem? ..).symm.trans d18
                          rw [if_pos (wanted_some rfl rfl rfl (by rw [hsz]; exact of_decide_eq_true rfl) d18)]
                          refine grow_enters (f := 18) (args := #[.agg #[.int .i64 y.t, .string y.k, .string y.v], .agg #[.int .i64 (t.toNat : Int), .string ks, .string vs]]) ?_ (grow_is (HLS.out _))
                          clear old dep ho hsz hb
                          go_simp
                        | 26, ho =>
                          obtain rfl := Option.some.inj ho
                          have d25 : a.tmps.getD 136 undef = .bool false := dep 25 _ _ (by kernel_rfl) rfl rfl
                          have e25 : a.tmps[136]?.getD undef = _ := (Array.getD_eq_getD_getElem? ..).symm.trans d25
                          have d18 : a.tmps.getD 129 undef = .bool true := dep 18 _ _ (by kernel_rfl) rfl rfl
                          have e18 : a.tmps[129]?.getD undef = _ := (Array.getD_eq_getD_getElem? ..).symm.trans d18
                          rw [if_pos (wanted_some rfl rfl rfl (by rw [hsz]; exact of_decide_eq_true rfl) d18)]
                          refine grow_same (v := .bool true) ?_ rfl
                          clear old dep ho hsz hb
                          go_simp
                        | 27, ho =>
                          obtain rfl := Option.some.inj ho
                          have d18 : a.tmps.getD 129 undef = .bool true := dep 18 _ _ (by kernel_rfl) rfl rfl
                          have e18 : a.tmps[129]?.getD undef = _ := (Array.getD_eq_getD_getElem? ..).symm.trans d18
                          have d26 : a.tmps.getD 137 undef = .bool true := dep 26 _ _ (by kernel_rfl) rfl rfl
                          have e26 : a.tmps[137]?.getD undef = _ := (Array.getD_eq_getD_getElem? ..).symm.trans d26
                          have d15 : a.tmps.getD 126 undef = .bool false := dep 15 _ _ (by kernel_rfl) rfl rfl
                          have e15 : a.tmps[126]?.getD undef = _ := (Array.getD_eq_getD_getElem? ..).symm.trans d15
                          rw [if_pos (wanted_some rfl rfl rfl (by rw [hsz]; exact of_decide_eq_true rfl) d15)]
                          refine grow_same (v := .bool true) ?_ rfl
                          clear old dep ho hsz hb
                          go_simp
                        | 28, ho =>
                          obtain rfl := Option.some.inj ho
                          have d15 : a.tmps.getD 126 undef = .bool false := dep 15 _ _ (by kernel_rfl) rfl rfl
                          have e15 : a.tmps[126]?.getD undef = _ := (Array.getD_eq_getD_getElem? ..).symm.trans d15
                          have d27 : a.tmps.getD 138 undef = .bool true := dep 27 _ _ (by kernel_rfl) rfl rfl
                          have e27 : a.tmps[138]?.getD undef = _ := (Array.getD_eq_getD_getElem? ..).symm.trans d27
                          rw [if_pos (wanted_none rfl)]
                          refine grow_same (v := .bool true) ?_ rfl
                          clear old dep ho hsz hb
                          go_simp
                        | i + 29, ho => exact absurd ho (by simp)
                      · intro a w7 hb hsz hdf fin keep
                        obtain ⟨tm, df⟩ := a
                        have hx := frame_of [111, 112, 113, 114, 115, 116, 117, 118, 119, 120, 121, 122, 123, 124, 125, 126, 127, 128, 129, 130, 131, 132, 133, 134, 135, 136, 137, 138, 139] (by kernel_rfl) hsz keep
                        dsimp only at hdf hx
                        simp only [List.foldl_cons, List.foldl_nil] at hx
                        subst hdf
                        clear hsz keep
                        have kn : tm.getD 111 undef = .pointer (some ⟨bx, 0, none⟩) := fin 0 _ _ rfl rfl
                        rw [kn] at hx
                        clear kn
                        have kn : tm.getD 112 undef = .int .i64 (t.toNat : Int) := fin 1 _ _ rfl rfl
                        rw [kn] at hx
                        clear kn
                        have kn : tm.getD 113 undef = .bool false := fin 2 _ _ rfl rfl
                        rw [kn] at hx
                        clear kn
                        have kn : tm.getD 114 undef = .bool false := fin 3 _ _ rfl rfl
                        rw [kn] at hx
                        clear kn
                        have kn : tm.getD 115 undef = .pointer (some ⟨bx, 1, none⟩) := fin 4 _ _ rfl rfl
                        rw [kn] at hx
                        clear kn
                        have kn : tm.getD 116 undef = .string ks := fin 5 _ _ rfl rfl
                        rw [kn] at hx
                        clear kn
                        have kn : tm.getD 117 undef = .int .i64 (ks.size : Int) := fin 6 _ _ rfl rfl
                        rw [kn] at hx
                        clear kn
                        have kn : tm.getD 118 undef = .bool false := fin 7 _ _ rfl rfl
                        rw [kn] at hx
                        clear kn
                        have kn : tm.getD 119 undef = .bool false := fin 8 _ _ rfl rfl
                        rw [kn] at hx
                        clear kn
                        have kn : tm.getD 120 undef = .bool false := fin 9 _ _ rfl rfl
                        rw [kn] at hx
                        clear kn
                        have kn : tm.getD 121 undef = .pointer (some ⟨bx, 2, none⟩) := fin 10 _ _ rfl rfl
                        rw [kn] at hx
                        clear kn
                        have kn : tm.getD 122 undef = .string vs := fin 11 _ _ rfl rfl
                        rw [kn] at hx
                        clear kn
                        have kn : tm.getD 123 undef = .int .i64 (vs.size : Int) := fin 12 _ _ rfl rfl
                        rw [kn] at hx
                        clear kn
                        have kn : tm.getD 124 undef = .bool false := fin 13 _ _ rfl rfl
                        rw [kn] at hx
                        clear kn
                        have kn : tm.getD 125 undef = .bool false := fin 14 _ _ rfl rfl
                        rw [kn] at hx
                        clear kn
                        have kn : tm.getD 126 undef = .bool false := fin 15 _ _ rfl rfl
                        rw [kn] at hx
                        clear kn
                        have kn : tm.getD 127 undef = .int .i64 ((i0 : Int) + 1) := fin 16 _ _ rfl rfl
                        rw [kn] at hx
                        clear kn
                        have kn : tm.getD 128 undef = .bool true := fin 17 _ _ rfl rfl
                        rw [kn] at hx
                        clear kn
                        have kn : tm.getD 129 undef = .bool true := fin 18 _ _ rfl rfl
                        rw [kn] at hx
                        clear kn
                        have kn : tm.getD 130 undef = .slice (some ⟨gr, 0, none⟩) acc.length c3 := fin 19 _ _ rfl rfl
                        rw [kn] at hx
                        clear kn
                        have kn : tm.getD 131 undef = .int .i64 ((i0 : Int) + 1) := fin 20 _ _ rfl rfl
                        rw [kn] at hx
                        clear kn
                        have kn : tm.getD 132 undef = .int .i64 (i0 : Int) := fin 21 _ _ rfl rfl
                        rw [kn] at hx
                        clear kn
                        have kn : tm.getD 133 undef = .pointer (some ⟨gr, i0 * 3, none⟩) := fin 22 _ _ rfl rfl
                        rw [kn] at hx
                        clear kn
                        have kn : tm.getD 134 undef = .agg #[.int .i64 y.t, .string y.k, .string y.v] := fin 23 _ _ rfl rfl
                        rw [kn] at hx
                        clear kn
                        have kn : tm.getD 135 undef = .agg #[.int .i64 (t.toNat : Int), .string ks, .string vs] := fin 24 _ _ rfl rfl
                        rw [kn] at hx
                        clear kn
                        have kn : tm.getD 136 undef = .bool false := fin 25 _ _ rfl rfl
                        rw [kn] at hx
                        clear kn
                        have kn : tm.getD 137 undef = .bool true := fin 26 _ _ rfl rfl
                        rw [kn] at hx
                        clear kn
                        have kn : tm.getD 138 undef = .bool true := fin 27 _ _ rfl rfl
                        rw [kn] at hx
                        clear kn
                        have kn : tm.getD 139 undef = .bool true := fin 28 _ _ rfl rfl
                        rw [kn] at hx
                        clear kn
                        clear fin
                        simp only [List.setIfInBounds_toArray, List.set_cons_succ, List.set_cons_zero] at hx
                        subst hx
                        go_wp2
                        refine bodyPost_ret (v := .tuple #[.slice none 0 0, .int .i64 9]) (by simp [results, Try.results17, go_sem]) rfl ⟨_, _, rfl, ?_⟩
                        exact HPP.out _ _ _ ⟨[], .form HBAD.out, Kd.Row.nil _ _, (fun k e => by cases e), (HS6.out.below hb).bel⟩
                    · have HW3 : Hid (Wit b p3 (acc ++ [⟨(t.toNat : Int), ks, vs⟩])) := hide (HW.out.more (Ris.snoc.2 ⟨HW.out.ris, HOKX.out, fun z hz => by rw [HLASTY.out] at hz; obtain rfl := Option.some.inj hz; exact hls⟩) HROW.out HP3L.out.2 HP3L.out.1)
                      rw [hls] at HLS
                      clear hls
                      refine region_grows [Say.is (.pointer (some ⟨bx, 0, none⟩)), Say.is (.int .i64 (t.toNat : Int)), Say.is (.bool false), Say.is (.bool false), Say.is (.pointer (some ⟨bx, 1, none⟩)), Say.is (.string ks), Say.is (.int .i64 (ks.size : Int)), Say.is (.bool false), Say.is (.bool false), Say.is (.bool false), Say.is (.pointer (some ⟨bx, 2, none⟩)), Say.is (.string vs), Say.is (.int .i64 (vs.size : Int)), Say.is (.bool false), Say.is (.bool false), Say.is (.bool false), Say.is (.int .i64 ((i0 : Int) + 1)), Say.is (.bool true), Say.is (.bool true), Say.is (.slice (some ⟨gr, 0, none⟩) acc.length c3), Say.is (.int .i64 ((i0 : Int) + 1)), Say.is (.int .i64 (i0 : Int)), Say.is (.pointer (some ⟨gr, i0 * 3, none⟩)), Say.is (.agg #[.int .i64 y.t, .string y.k, .string y.v]), Say.is (.agg #[.int .i64 (t.toNat : Int), .string ks, .string vs]), Say.is (.bool true), Say.is (.bool false), Say.is (.bool false), Say.is (.bool false)] (by kernel_rfl) (by kernel_rfl) (by kernel_rfl) (by kernel_rfl) ?_ ?_
                      · intro i o ho a w2 hb hsz old dep
                        match i, ho with
                        | 0, ho =>
                          obtain rfl := Option.some.inj ho
                          have o8 : a.tmps.getD 8 undef = _ := old 8 (by kernel_rfl)
                          rw [if_pos (wanted_none rfl)]
                          refine grow_same (v := .pointer (some ⟨bx, 0, none⟩)) ?_ rfl
                          clear old dep ho hsz hb
                          go_simp
                        | 1, ho =>
                          obtain rfl := Option.some.inj ho
                          have d0 : a.tmps.getD 111 undef = .pointer (some ⟨bx, 0, none⟩) := dep 0 _ _ (by kernel_rfl) rfl rfl
                          have e0 : a.tmps[111]?.getD undef = _ := (Array.getD_eq_getD_getElem? ..).symm.trans d0
                          rw [if_pos (wanted_none rfl)]
                          have g0 := (hb.cell (p := ⟨bx, 0, none⟩) HBX.out).trans x0
                          refine grow_same (v := .int .i64 (t.toNat : Int)) ?_ rfl
                          clear old dep ho hsz hb
                          go_simp
                        | 2, ho =>
                          obtain rfl := Option.some.inj ho
                          have d1 : a.tmps.getD 112 undef = .int .i64 (t.toNat : Int) := dep 1 _ _ (by kernel_rfl) rfl rfl
                          have e1 : a.tmps[112]?.getD undef = _ := (Array.getD_eq_getD_getElem? ..).symm.trans d1
                          rw [if_pos (wanted_none rfl)]
                          refine grow_same (v := .bool false) ?_ rfl
                          clear old dep ho hsz hb
                          go_simp
                        | 3, ho =>
                          obtain rfl := Option.some.inj ho
                          have d2 : a.tmps.getD 113 undef = .bool false := dep 2 _ _ (by kernel_rfl) rfl rfl
                          have e2 : a.tmps[113]?.getD undef = _ := (Array.getD_eq_getD_getElem? ..).symm.trans d2
                          rw [if_pos (wanted_none rfl)]
                          refine grow_same (v := .bool false) ?_ rfl
                          clear old dep ho hsz hb
                          go_simp
                        | 4, ho =>
                          obtain rfl := Option.some.inj ho
                          have o8 : a.tmps.getD 8 undef = _ := old 8 (by kernel_rfl)
                          have d3 : a.tmps.getD 114 undef = .bool false := dep 3 _ _ (by kernel_rfl) rfl rfl
                          have e3 : a.tmps[114]?.getD undef = _ := (Array.getD_eq_getD_getElem? ..).symm.trans d3
                          rw [if_pos (wanted_some rfl rfl rfl (by rw [hsz]; exact of_decide_eq_true rfl) d3)]
                          refine grow_same (v := .pointer (some ⟨bx, 1, none⟩)) ?_ rfl
                          clear old dep ho hsz hb
                          go_simp
                        | 5, ho =>
                          obtain rfl := Option.some.inj ho
                          have d4 : a.tmps.getD 115 undef = .pointer (some ⟨bx, 1, none⟩) := dep 4 _ _ (by kernel_rfl) rfl rfl
                          have e4 : a.tmps[115]?.getD undef = _ := (Array.getD_eq_getD_getElem? ..).symm.trans d4
                          have d3 : a.tmps.getD 114 undef = .bool false := dep 3 _ _ (by kernel_rfl) rfl rfl
                          have e3 : a.tmps[114]?.getD undef = _ := (Array.getD_eq_getD_getElem? ..).symm.trans d3
                          rw [if_pos (wanted_some rfl rfl rfl (by rw [hsz]; exact of_decide_eq_true rfl) d3)]
                          have g0 := (hb.cell (p := ⟨bx, 1, none⟩) HBX.out).trans x1
                          refine grow_same (v := .string ks) ?_ rfl
                          clear old dep ho hsz hb
                          go_simp
                        | 6, ho =>
                          obtain rfl := Option.some.inj ho
                          have d5 : a.tmps.getD 116 undef = .string ks := dep 5 _ _ (by kernel_rfl) rfl rfl
                          have e5 : a.tmps[116]?.getD undef = _ := (Array.getD_eq_getD_getElem? ..).symm.trans d5
                          have d3 : a.tmps.getD 114 undef = .bool false := dep 3 _ _ (by kernel_rfl) rfl rfl
                          have e3 : a.tmps[114]?.getD undef = _ := (Array.getD_eq_getD_getElem? ..).symm.trans d3
                          rw [if_pos (wanted_some rfl rfl rfl (by rw [hsz]; exact of_decide_eq_true rfl) d3)]
                          refine grow_same (v := .int .i64 (ks.size : Int)) ?_ rfl
                          clear old dep ho hsz hb
                          go_simp
                        | 7, ho =>
                          obtain rfl := Option.some.inj ho
                          have d6 : a.tmps.getD 117 undef = .int .i64 (ks.size : Int) := dep 6 _ _ (by kernel_rfl) rfl rfl
                          have e6 : a.tmps[117]?.getD undef = _ := (Array.getD_eq_getD_getElem? ..).symm.trans d6
                          have d3 : a.tmps.getD 114 undef = .bool false := dep 3 _ _ (by kernel_rfl) rfl rfl
                          have e3 : a.tmps[114]?.getD undef = _ := (Array.getD_eq_getD_getElem? ..).symm.trans d3
                          rw [if_pos (wanted_some rfl rfl rfl (by rw [hsz]; exact of_decide_eq_true rfl) d3)]
                          refine grow_same (v := .bool false) ?_ rfl
                          clear old dep ho hsz hb
                          go_simp
                        | 8, ho =>
                          obtain rfl := Option.some.inj ho
                          have d3 : a.tmps.getD 114 undef = .bool false := dep 3 _ _ (by kernel_rfl) rfl rfl
                          have e3 : a.tmps[114]?.getD undef = _ := (Array.getD_eq_getD_getElem? ..).symm.trans d3
                          have d7 : a.tmps.getD 118 undef = .bool false := dep 7 _ _ (by kernel_rfl) rfl rfl
                          have e7 : a.tmps[118]?.getD undef = _ := (Array.getD_eq_getD_getElem? ..).symm.trans d7
                          rw [if_pos (wanted_none rfl)]
                          refine grow_same (v := .bool false) ?_ rfl
                          clear old dep ho hsz hb
                          go_simp
                        | 9, ho =>
                          obtain rfl := Option.some.inj ho
                          have d8 : a.tmps.getD 119 undef = .bool false := dep 8 _ _ (by kernel_rfl) rfl rfl
                          have e8 : a.tmps[119]?.getD undef = _ := (Array.getD_eq_getD_getElem? ..).symm.trans d8
                          rw [if_pos (wanted_none rfl)]
                          refine grow_same (v := .bool false) ?_ rfl
                          clear old dep ho hsz hb
                          go_simp
                        | 10, ho =>
                          obtain rfl := Option.some.inj ho
                          have o8 : a.tmps.getD 8 undef = _ := old 8 (by kernel_rfl)
                          have d9 : a.tmps.getD 120 undef = .bool false := dep 9 _ _ (by kernel_rfl) rfl rfl
                          have e9 : a.tmps[120]?.getD undef = _ := (Array.getD_eq_getD_getElem? ..).symm.trans d9
                          rw [if_pos (wanted_some rfl rfl rfl (by rw [hsz]; exact of_decide_eq_true rfl) d9)]
                          refine grow_same (v := .pointer (some ⟨bx, 2, none⟩)) ?_ rfl
                          clear old dep ho hsz hb
                          go_simp
                        | 11, ho =>
                          obtain rfl := Option.some.inj ho
                          have d10 : a.tmps.getD 121 undef = .pointer (some ⟨bx, 2, none⟩) := dep 10 _ _ (by kernel_rfl) rfl rfl
                          have e10 : a.tmps[121]?.getD undef = _ := (Array.getD_eq_getD_getElem? ..).symm.trans d10
                          have d9 : a.tmps.getD 120 undef = .bool false := dep 9 _ _ (by kernel_rfl) rfl rfl
                          have e9 : a.tmps[120]?.getD undef = _ := (Array.getD_eq_getD_getElem? ..).symm.trans d9
                          rw [if_pos (wanted_some rfl rfl rfl (by rw [hsz]; exact of_decide_eq_true rfl) d9)]
                          have g0 := (hb.cell (p := ⟨bx, 2, none⟩) HBX.out).trans x2
                          refine grow_same (v := .string vs) ?_ rfl
                          clear old dep ho hsz hb
                          go_simp
                        | 12, ho =>
                          obtain rfl := Option.some.inj ho
                          have d11 : a.tmps.getD 122 undef = .string vs := dep 11 _ _ (by kernel_rfl) rfl rfl
                          have e11 : a.tmps[122]?.getD undef = _ := (Array.getD_eq_getD_getElem? ..).symm.trans d11
                          have d9 : a.tmps.getD 120 undef = .bool false := dep 9 _ _ (by kernel_rfl) rfl rfl
                          have e9 : a.tmps[120]?.getD undef = _ := (Array.getD_eq_getD_getElem? ..).symm.trans d9
                          rw [if_pos (wanted_some rfl rfl rfl (by rw [hsz]; exact of_decide_eq_true rfl) d9)]
                          refine grow_same (v := .int .i64 (vs.size : Int)) ?_ rfl
                          clear old dep ho hsz hb
                          go_simp
                        | 13, ho =>
                          obtain rfl := Option.some.inj ho
                          have d12 : a.tmps.getD 123 undef = .int .i64 (vs.size : Int) := dep 12 _ _ (by kernel_rfl) rfl rfl
                          have e12 : a.tmps[123]?.getD undef = _ := (Array.getD_eq_getD_getElem? ..).symm.trans d12
                          have d9 : a.tmps.getD 120 undef = .bool false := dep 9 _ _ (by kernel_rfl) rfl rfl
                          have e9 : a.tmps[120]?.getD undef = _ := (Array.getD_eq_getD_getElem? ..).symm.trans d9
                          rw [if_pos (wanted_some rfl rfl rfl (by rw [hsz]; exact of_decide_eq_true rfl) d9)]
                          refine grow_same (v := .bool false) ?_ rfl
                          clear old dep ho hsz hb
                          go_simp
                        | 14, ho =>
                          obtain rfl := Option.some.inj ho
                          have d9 : a.tmps.getD 120 undef = .bool false := dep 9 _ _ (by kernel_rfl) rfl rfl
                          have e9 : a.tmps[120]?.getD undef = _ := (Array.getD_eq_getD_getElem? ..).symm.trans d9
                          have d13 : a.tmps.getD 124 undef = .bool false := dep 13 _ _ (by kernel_rfl) rfl rfl
                          have e13 : a.tmps[124]?.getD undef = _ := (Array.getD_eq_getD_getElem? ..).symm.trans d13
                          rw [if_pos (wanted_none rfl)]
                          refine grow_same (v := .bool false) ?_ rfl
                          clear old dep ho hsz hb
                          go_simp
                        | 15, ho =>
                          obtain rfl := Option.some.inj ho
                          have d14 : a.tmps.getD 125 undef = .bool false := dep 14 _ _ (by kernel_rfl) rfl rfl
                          have e14 : a.tmps[125]?.getD undef = _ := (Array.getD_eq_getD_getElem? ..).symm.trans d14
                          rw [if_pos (wanted_none rfl)]
                          refine grow_same (v := .bool false) ?_ rfl
                          clear old dep ho hsz hb
                          go_simp
                        | 16, ho =>
                          obtain rfl := Option.some.inj ho
                          have o7 : a.tmps.getD 7 undef = _ := old 7 (by kernel_rfl)
                          have d15 : a.tmps.getD 126 undef = .bool false := dep 15 _ _ (by kernel_rfl) rfl rfl
                          have e15 : a.tmps[126]?.getD undef = _ := (Array.getD_eq_getD_getElem? ..).symm.trans d15
                          rw [if_pos (wanted_some rfl rfl rfl (by rw [hsz]; exact of_decide_eq_true rfl) d15)]
                          refine grow_same (v := .int .i64 ((i0 : Int) + 1)) ?_ rfl
                          clear old dep ho hsz hb
                          go_simp
                        | 17, ho =>
                          obtain rfl := Option.some.inj ho
                          have d16 : a.tmps.getD 127 undef = .int .i64 ((i0 : Int) + 1) := dep 16 _ _ (by kernel_rfl) rfl rfl
                          have e16 : a.tmps[127]?.getD undef = _ := (Array.getD_eq_getD_getElem? ..).symm.trans d16
                          have d15 : a.tmps.getD 126 undef = .bool false := dep 15 _ _ (by kernel_rfl) rfl rfl
                          have e15 : a.tmps[126]?.getD undef = _ := (Array.getD_eq_getD_getElem? ..).symm.trans d15
                          rw [if_pos (wanted_some rfl rfl rfl (by rw [hsz]; exact of_decide_eq_true rfl) d15)]
                          refine grow_same (v := .bool true) ?_ rfl
                          clear old dep ho hsz hb
                          go_simp
                        | 18, ho =>
                          obtain rfl := Option.some.inj ho
                          have d17 : a.tmps.getD 128 undef = .bool true := dep 17 _ _ (by kernel_rfl) rfl rfl
                          have e17 : a.tmps[128]?.getD undef = _ := (Array.getD_eq_getD_getElem? ..).symm.trans d17
                          have d15 : a.tmps.getD 126 undef = .bool false := dep 15 _ _ (by kernel_rfl) rfl rfl
                          have e15 : a.tmps[126]?.getD undef = _ := (Array.getD_eq_getD_getElem? ..).symm.trans d15
                          rw [if_pos (wanted_some rfl rfl rfl (by rw [hsz]; exact of_decide_eq_true rfl) d15)]
                          refine grow_same (v := .bool true) ?_ rfl
                          clear old dep ho hsz hb
                          go_simp
                        | 19, ho =>
                          obtain rfl := Option.some.inj ho
                          have o6 : a.tmps.getD 6 undef = _ := old 6 (by kernel_rfl)
                          have d18 : a.tmps.getD 129 undef = .bool true := dep 18 _ _ (by kernel_rfl) rfl rfl
                          have e18 : a.tmps[129]?.getD undef = _ := (Array.getD_eq_getD_getElem? ..).symm.trans d18
                          rw [if_pos (wanted_some rfl rfl rfl (by rw [hsz]; exact of_decide_eq_true rfl) d18)]
                          refine grow_same (v := .slice (some ⟨gr, 0, none⟩) acc.length c3) ?_ rfl
                          clear old dep ho hsz hb
                          go_simp
                        | 20, ho =>
                          obtain rfl := Option.some.inj ho
                          have o7 : a.tmps.getD 7 undef = _ := old 7 (by kernel_rfl)
                          have d18 : a.tmps.getD 129 undef = .bool true := dep 18 _ _ (by kernel_rfl) rfl rfl
                          have e18 : a.tmps[129]?.getD undef = _ := (Array.getD_eq_getD_getElem? ..).symm.trans d18
                          rw [if_pos (wanted_some rfl rfl rfl (by rw [hsz]; exact of_decide_eq_true rfl) d18)]
                          refine grow_same (v := .int .i64 ((i0 : Int) + 1)) ?_ rfl
                          clear old dep ho hsz hb
                          go_simp
                        | 21, ho =>
                          obtain rfl := Option.some.inj ho
                          have d20 : a.tmps.getD 131 undef = .int .i64 ((i0 : Int) + 1) := dep 20 _ _ (by kernel_rfl) rfl rfl
                          have e20 : a.tmps[131]?.getD undef = _ := (Array.getD_eq_getD_getElem? ..).symm.trans d20
                          have d18 : a.tmps.getD 129 undef = .bool true := dep 18 _ _ (by kernel_rfl) rfl rfl
                          have e18 : a.tmps[129]?.getD undef = _ := (Array.getD_eq_getD_getElem? ..).symm.trans d18
                          rw [if_pos (wanted_some rfl rfl rfl (by rw [hsz]; exact of_decide_eq_true rfl) d18)]
                          refine grow_same (v := .int .i64 (i0 : Int)) ?_ rfl
                          clear old dep ho hsz hb
                          go_simp
                        | 22, ho =>
                          obtain rfl := Option.some.inj ho
                          have d19 : a.tmps.getD 130 undef = .slice (some ⟨gr, 0, none⟩) acc.length c3 := dep 19 _ _ (by kernel_rfl) rfl rfl
                          have e19 : a.tmps[130]?.getD undef = _ := (Array.getD_eq_getD_getElem? ..).symm.trans d19
                          have d21 : a.tmps.getD 132 undef = .int .i64 (i0 : Int) := dep 21 _ _ (by kernel_rfl) rfl rfl
                          have e21 : a.tmps[132]?.getD undef = _ := (Array.getD_eq_getD_getElem? ..).symm.trans d21
                          have d18 : a.tmps.getD 129 undef = .bool true := dep 18 _ _ (by kernel_rfl) rfl rfl
                          have e18 : a.tmps[129]?.getD undef = _ := (Array.getD_eq_getD_getElem? ..).symm.trans d18
                          rw [if_pos (wanted_some rfl rfl rfl (by rw [hsz]; exact of_decide_eq_true rfl) d18)]
                          refine grow_same (v := .pointer (some ⟨gr, i0 * 3, none⟩)) ?_ rfl
                          clear old dep ho hsz hb
                          go_simp
                        | 23, ho =>
                          obtain rfl := Option.some.inj ho
                          have d22 : a.tmps.getD 133 undef = .pointer (some ⟨gr, i0 * 3, none⟩) := dep 22 _ _ (by kernel_rfl) rfl rfl
                          have e22 : a.tmps[133]?.getD undef = _ := (Array.getD_eq_getD_getElem? ..).symm.trans d22
                          have d18 : a.tmps.getD 129 undef = .bool true := dep 18 _ _ (by kernel_rfl) rfl rfl
                          have e18 : a.tmps[129]?.getD undef = _ := (Array.getD_eq_getD_getElem? ..).symm.trans d18
                          rw [if_pos (wanted_some rfl rfl rfl (by rw [hsz]; exact of_decide_eq_true rfl) d18)]
                          have g0 := (hb.cell (p := ⟨gr, i0 * 3, none⟩) HGR.out).trans y0
                          have g1 := (hb.cell (p := ⟨gr, i0 * 3 + 1, none⟩) HGR.out).trans y1
                          have g2 := (hb.cell (p := ⟨gr, i0 * 3 + 2, none⟩) HGR.out).trans y2
                          refine grow_same (v := .agg #[.int .i64 y.t, .string y.k, .string y.v]) ?_ rfl
                          clear old dep ho hsz hb
                          go_simp
                        | 24, ho =>
                          obtain rfl := Option.some.inj ho
                          have o8 : a.tmps.getD 8 undef = _ := old 8 (by kernel_rfl)
                          have d18 : a.tmps.getD 129 undef = .bool true := dep 18 _ _ (by kernel_rfl) rfl rfl
                          have e18 : a.tmps[129]?.getD undef = _ := (Array.getD_eq_getD_getElem? ..).symm.trans d18
                          rw [if_pos (wanted_some rfl rfl rfl (by rw [hsz]; exact of_decide_eq_true rfl) d18)]
                          have g0 := (hb.cell (p := ⟨bx, 0, none⟩) HBX.out).trans x0
                          have g1 := (hb.cell (p := ⟨bx, 1, none⟩) HBX.out).trans x1
                          have g2 := (hb.cell (p := ⟨bx, 2, none⟩) HBX.out).trans x2
                          refine grow_same (v := .agg #[.int .i64 (t.toNat : Int), .string ks, .string vs]) ?_ rfl
                          clear old dep ho hsz hb
                          go_simp
                        | 25, ho =>
                          obtain rfl := Option.some.inj ho
                          have d23 : a.tmps.getD 134 undef = .agg #[.int .i64 y.t, .string y.k, .string y.v] := dep 23 _ _ (by kernel_rfl) rfl rfl
                          have e23 : a.tmps[134]?.getD undef = _ := (Array.getD_eq_getD_getElem? ..).symm.trans d23
                          have d24 : a.tmps.getD 135 undef = .agg #[.int .i64 (t.toNat : Int), .string ks, .string vs] := dep 24 _ _ (by kernel_rfl) rfl rfl
                          have e24 : a.tmps[135]?.getD undef = _ := (Array.getD_eq_getD_getElem? ..).symm.trans d24
                          have d18 : a.tmps.getD 129 undef = .bool true := dep 18 _ _ (by kernel_rfl) rfl rfl
                          have e18 : a.tmps[129]?.getD undef = _ := (Array.getD_eq_getD_getElem? ..).symm.trans d18
                          rw [if_pos (wanted_some rfl rfl rfl (by rw [hsz]; exact of_decide_eq_true rfl) d18)]
                          refine grow_enters (f := 18) (args := #[.agg #[.int .i64 y.t, .string y.k, .string y.v], .agg #[.int .i64 (t.toNat : Int), .string ks, .string vs]]) ?_ (grow_is (HLS.out _))
                          clear old dep ho hsz hb
                          go_simp
                        | 26, ho =>
                          obtain rfl := Option.some.inj ho
                          have d25 : a.tmps.getD 136 undef = .bool true := dep 25 _ _ (by kernel_rfl) rfl rfl
                          have e25 : a.tmps[136]?.getD undef = _ := (Array.getD_eq_getD_getElem? ..).symm.trans d25
                          have d18 : a.tmps.getD 129 undef = .bool true := dep 18 _ _ (by kernel_rfl) rfl rfl
                          have e18 : a.tmps[129]?.getD undef = _ := (Array.getD_eq_getD_getElem? ..).symm.trans d18
                          rw [if_pos (wanted_some rfl rfl rfl (by rw [hsz]; exact of_decide_eq_true rfl) d18)]
                          refine grow_same (v := .bool false) ?_ rfl
                          clear old dep ho hsz hb
                          go_simp
                        | 27, ho =>
                          obtain rfl := Option.some.inj ho
                          have d18 : a.tmps.getD 129 undef = .bool true := dep 18 _ _ (by kernel_rfl) rfl rfl
                          have e18 : a.tmps[129]?.getD undef = _ := (Array.getD_eq_getD_getElem? ..).symm.trans d18
                          have d26 : a.tmps.getD 137 undef = .bool false := dep 26 _ _ (by kernel_rfl) rfl rfl
                          have e26 : a.tmps[137]?.getD undef = _ := (Array.getD_eq_getD_getElem? ..).symm.trans d26
                          have d15 : a.tmps.getD 126 undef = .bool false := dep 15 _ _ (by kernel_rfl) rfl rfl
                          have e15 : a.tmps[126]?.getD undef = _ := (Array.getD_eq_getD_getElem? ..).symm.trans d15
                          rw [if_pos (wanted_some rfl rfl rfl (by rw [hsz]; exact of_decide_eq_true rfl) d15)]
                          refine grow_same (v := .bool false) ?_ rfl
                          clear old dep ho hsz hb
                          go_simp
                        | 28, ho =>
                          obtain rfl := Option.some.inj ho
                          have d15 : a.tmps.getD 126 undef = .bool false := dep 15 _ _ (by kernel_rfl) rfl rfl
                          have e15 : a.tmps[126]?.getD undef = _ := (Array.getD_eq_getD_getElem? ..).symm.trans d15
                          have d27 : a.tmps.getD 138 undef = .bool false := dep 27 _ _ (by kernel_rfl) rfl rfl
                          have e27 : a.tmps[138]?.getD undef = _ := (Array.getD_eq_getD_getElem? ..).symm.trans d27
                          rw [if_pos (wanted_none rfl)]
                          refine grow_same (v := .bool false) ?_ rfl
                          clear old dep ho hsz hb
                          go_simp
                        | i + 29, ho => exact absurd ho (by simp)
                      · intro a w7 hb hsz hdf fin keep
                        obtain ⟨tm, df⟩ := a
                        have hx := frame_of [111, 112, 113, 114, 115, 116, 117, 118, 119, 120, 121, 122, 123, 124, 125, 126, 127, 128, 129, 130, 131, 132, 133, 134, 135, 136, 137, 138, 139] (by kernel_rfl) hsz keep
                        dsimp only at hdf hx
                        simp only [List.foldl_cons, List.foldl_nil] at hx
                        subst hdf
                        clear hsz keep
                        have kn : tm.getD 111 undef = .pointer (some ⟨bx, 0, none⟩) := fin 0 _ _ rfl rfl
                        rw [kn] at hx
                        clear kn
                        have kn : tm.getD 112 undef = .int .i64 (t.toNat : Int) := fin 1 _ _ rfl rfl
                        rw [kn] at hx
                        clear kn
                        have kn : tm.getD 113 undef = .bool false := fin 2 _ _ rfl rfl
                        rw [kn] at hx
                        clear kn
                        have kn : tm.getD 114 undef = .bool false := fin 3 _ _ rfl rfl
                        rw [kn] at hx
                        clear kn
                        have kn : tm.getD 115 undef = .pointer (some ⟨bx, 1, none⟩) := fin 4 _ _ rfl rfl
                        rw [kn] at hx
                        clear kn
                        have kn : tm.getD 116 undef = .string ks := fin 5 _ _ rfl rfl
                        rw [kn] at hx
                        clear kn
                        have kn : tm.getD 117 undef = .int .i64 (ks.size : Int) := fin 6 _ _ rfl rfl
                        rw [kn] at hx
                        clear kn
                        have kn : tm.getD 118 undef = .bool false := fin 7 _ _ rfl rfl
                        rw [kn] at hx
                        clear kn
                        have kn : tm.getD 119 undef = .bool false := fin 8 _ _ rfl rfl
                        rw [kn] at hx
                        clear kn
                        have kn : tm.getD 120 undef = .bool false := fin 9 _ _ rfl rfl
                        rw [kn] at hx
                        clear kn
                        have kn : tm.getD 121 undef = .pointer (some ⟨bx, 2, none⟩) := fin 10 _ _ rfl rfl
                        rw [kn] at hx
                        clear kn
                        have kn : tm.getD 122 undef = .string vs := fin 11 _ _ rfl rfl
                        rw [kn] at hx
                        clear kn
                        have kn : tm.getD 123 undef = .int .i64 (vs.size : Int) := fin 12 _ _ rfl rfl
                        rw [kn] at hx
                        clear kn
                        have kn : tm.getD 124 undef = .bool false := fin 13 _ _ rfl rfl
                        rw [kn] at hx
                        clear kn
                        have kn : tm.getD 125 undef = .bool false := fin 14 _ _ rfl rfl
                        rw [kn] at hx
                        clear kn
                        have kn : tm.getD 126 undef = .bool false := fin 15 _ _ rfl rfl
                        rw [kn] at hx
                        clear kn
                        have kn : tm.getD 127 undef = .int .i64 ((i0 : Int) + 1) := fin 16 _ _ rfl rfl
                        rw [kn] at hx
                        clear kn
                        have kn : tm.getD 128 undef = .bool true := fin 17 _ _ rfl rfl
                        rw [kn] at hx
                        clear kn
                        have kn : tm.getD 129 undef = .bool true := fin 18 _ _ rfl rfl
                        rw [kn] at hx
                        clear kn
                        have kn : tm.getD 130 undef = .slice (some ⟨gr, 0, none⟩) acc.length c3 := fin 19 _ _ rfl rfl
                        rw [kn] at hx
                        clear kn
                        have kn : tm.getD 131 undef = .int .i64 ((i0 : Int) + 1) := fin 20 _ _ rfl rfl
                        rw [kn] at hx
                        clear kn
                        have kn : tm.getD 132 undef = .int .i64 (i0 : Int) := fin 21 _ _ rfl rfl
                        rw [kn] at hx
                        clear kn
                        have kn : tm.getD 133 undef = .pointer (some ⟨gr, i0 * 3, none⟩) := fin 22 _ _ rfl rfl
                        rw [kn] at hx
                        clear kn
                        have kn : tm.getD 134 undef = .agg #[.int .i64 y.t, .string y.k, .string y.v] := fin 23 _ _ rfl rfl
                        rw [kn] at hx
                        clear kn
                        have kn : tm.getD 135 undef = .agg #[.int .i64 (t.toNat : Int), .string ks, .string vs] := fin 24 _ _ rfl rfl
                        rw [kn] at hx
                        clear kn
                        have kn : tm.getD 136 undef = .bool true := fin 25 _ _ rfl rfl
                        rw [kn] at hx
                        clear kn
                        have kn : tm.getD 137 undef = .bool false := fin 26 _ _ rfl rfl
                        rw [kn] at hx
                        clear kn
                        have kn : tm.getD 138 undef = .bool false := fin 27 _ _ rfl rfl
                        rw [kn] at hx
                        clear kn
                        have kn : tm.getD 139 undef = .bool false := fin 28 _ _ rfl rfl
                        rw [kn] at hx
                        clear kn
                        clear fin
                        simp only [List.setIfInBounds_toArray, List.set_cons_succ, List.set_cons_zero] at hx
                        subst hx
                        have hs7 := HS6.out.below hb
                        obtain ⟨v9, w9, hrun, hs9⟩ := hs7.addK (i := 0) (x := ⟨(t.toNat : Int), ks, vs⟩) (cs := #[.int .i64 (t.toNat : Int), .string ks, .string vs]) rfl rfl (by have := HLA.out; omega) 22
                        obtain ⟨A9, c9, e9⟩ := (hs9.krow (i := 0) rfl).form
                        generalize List.length _ = n9 at e9
                        subst e9
                        have HR := hide hrun
                        have S9 := hide hs9
                        have x0 := (hs7.blk (i := 1) rfl).cell 0 _ rfl
                        have x1 := (hs7.blk (i := 1) rfl).cell 1 _ rfl
                        have x2 := (hs7.blk (i := 1) rfl).cell 2 _ rfl
                        clear hrun hs9 hs7 hb
                        go_wp2_with (at_builtin; refine wpList_app (u := .slice (some ⟨w7.heap.size, 0, none⟩) 1 1) (by first | rfl | simp [Region.wanted, yielded]) (.tmp 140) (.tmp 142) 22 rfl rfl rfl HR.out ?_)
                        go_roundw
                        case rel => exact ⟨(i0 + 1) + 1, p3, A9, n9, c9, acc ++ [(⟨(t.toNat : Int), ks, vs⟩ : Rw)], by have := HLT.out; omega, by go_num, by go_num, rfl, HW3, hide (by have := HJ.out; rw [List.length_append, List.length_singleton]; omega), hide (show Ow w (fun _ => False) w9 [Res.row rwK (.slice A9 n9 c9) (acc ++ [(⟨(t.toNat : Int), ks, vs⟩ : Rw)])] from S9.out.take 1)⟩
                        case measure => simp [intOf]; have := HLT.out; omega
              · have e3 : decide ((b.length : Int) - 4 < (p2 : Int) + 1 + (vb.toNat : Int)) = true := decide_eq_true (by omega)
                have HBAD : Hid (∀ l, ¬ PortOf b l) := hide (fun l h => hen3 (by have := HW.out.no3 h (HNX.out l h) HK.out (by rw [← HP2.out]; exact HVB.out); have := HP2.out; omega))
                clear hen3
                go_wp2
                refine bodyPost_ret (v := .tuple #[.slice none 0 0, .int .i64 9]) (by simp [results, Try.results17, go_sem]) rfl ⟨_, _, rfl, ?_⟩
                exact HPP.out _ _ _ ⟨[], .form HBAD.out, Kd.Row.nil _ _, (fun k e => by cases e), S3.out.bel⟩
            · have e2 : decide ((b.length : Int) - 4 < (p : Int) + 2 + (k.toNat : Int) + 1) = true := decide_eq_true (by omega)
              have HBAD : Hid (∀ l, ¬ PortOf b l) := hide (fun l h => hen2 (HW.out.no2 h (HNX.out l h) HK.out))
              clear hen hen2
              go_wp2
              refine bodyPost_ret (v := .tuple #[.slice none 0 0, .int .i64 9]) (by simp [results, Try.results17, go_sem]) rfl ⟨_, _, rfl, ?_⟩
              exact HPP.out _ _ _ ⟨[], .form HBAD.out, Kd.Row.nil _ _, (fun k e => by cases e), S1.out.bel⟩
          · have e1 : decide ((b.length : Int) - 4 < (p : Int) + 2) = true := decide_eq_true (by omega)
            have HBAD : Hid (∀ l, ¬ PortOf b l) := hide (fun l h => hen (by have := HW.out.no1 h (HNX.out l h); omega))
            clear hen
            go_wp2
            refine bodyPost_ret (v := .tuple #[.slice none 0 0, .int .i64 9]) (by simp [results, Try.results17, go_sem]) rfl ⟨_, _, rfl, ?_⟩
            exact HPP.out _ _ _ ⟨[], .form HBAD.out, Kd.Row.nil _ _, (fun k e => by cases e), S1.out.bel⟩
        · have q1 : ¬ (j : Int) < (n : Int) := by omega
          have HNL : Hid (acc.length = n) := hide (by have := HJ.out; omega)
          have HRWS := hide (hs.out.rws (i := 0) rfl)
          have HBY := hide (bytes_any HRWS.out (by have := HNL.out; have := HN3.out; omega) (fun x hx => by have := okR_iff.1 (HW.out.ris.ok x hx); omega))
          go_upto_region 24 with (fail)
          have HFW : Hid (acc.length < 65536 ∧ ∀ x ∈ acc, x.k.size ≤ 1000 ∧ x.v.size ≤ 1000) := hide ⟨by have := HNL.out; have := HN3.out; omega, fun x hx => by have := okR_iff.1 (HW.out.ris.ok x hx); omega⟩
          have HVR := hide (HV.out.below hs.out.bel)
          have HALL : Hid (∀ l, PortOf b l → l = acc) := hide (fun l h => HW.out.all h (by rw [HNL.out, HCNT.out l h]))
          clear HBY
          by_cases he : portL acc = b
          · have f1 : (portL acc == b) = true := beq_iff_eq.2 he
            have HPO : Hid (PortOf b acc) := hide ⟨HW.out.ris, HFW.out.1, he⟩
            clear he
            refine region_grows [Say.is (.slice A3 n3 c3), Say.rd (portL acc).length (portL acc), Say.is (.string ⟨(portL acc).toArray⟩), Say.rd b.length (b), Say.is (.string ⟨(b).toArray⟩), Say.is (.bool false)] (by kernel_rfl) (by kernel_rfl) (by kernel_rfl) (by kernel_rfl) ?_ ?_
            · intro i o ho a w2 hb hsz old dep
              match i, ho with
              | 0, ho =>
                obtain rfl := Option.some.inj ho
                have o6 : a.tmps.getD 6 undef = _ := old 6 (by kernel_rfl)
                rw [if_pos (wanted_none rfl)]
                refine grow_same (v := .slice A3 n3 c3) ?_ rfl
                clear old dep ho hsz hb
                go_simp
              | 1, ho =>
                obtain rfl := Option.some.inj ho
                have d0 : a.tmps.getD 144 undef = .slice A3 n3 c3 := dep 0 _ _ (by kernel_rfl) rfl rfl
                have e0 : a.tmps[144]?.getD undef = _ := (Array.getD_eq_getD_getElem? ..).symm.trans d0
                rw [if_pos (wanted_none rfl)]
                refine grow_enters (f := 16) (args := #[.slice A3 n3 c3]) ?_ (bytes_rd (HRWS.out.below hb) HFW.out)
                clear old dep ho hsz hb
                go_simp
              | 2, ho =>
                obtain rfl := Option.some.inj ho
                obtain ⟨A1, C1, d1, r1⟩ : ∃ A c, a.tmps.getD 145 undef = .slice A (portL acc).length c ∧ Rd w2 (.slice A (portL acc).length c) (u8s (portL acc)) := dep 1 _ _ (by kernel_rfl) rfl rfl
                have e1 : a.tmps[145]?.getD undef = _ := (Array.getD_eq_getD_getElem? ..).symm.trans d1
                rw [if_pos (wanted_none rfl)]
                have hcv := conv_rdn rfl r1
                refine grow_same (v := .string ⟨(portL acc).toArray⟩) ?_ rfl
                clear old dep ho hsz hb r1
                go_simp
              | 3, ho =>
                obtain rfl := Option.some.inj ho
                have o0 : a.tmps.getD 0 undef = _ := old 0 (by kernel_rfl)
                rw [if_pos (wanted_none rfl)]
                refine grow_same (v := .slice (some ⟨bb, o, none⟩) b.length c) ?_ ⟨_, _, rfl, (HVR.out.below hb)⟩
                clear old dep ho hsz hb
                go_simp
              | 4, ho =>
                obtain rfl := Option.some.inj ho
                obtain ⟨A3, C3, d3, r3⟩ : ∃ A c, a.tmps.getD 147 undef = .slice A b.length c ∧ Rd w2 (.slice A b.length c) (u8s (b)) := dep 3 _ _ (by kernel_rfl) rfl rfl
                have e3 : a.tmps[147]?.getD undef = _ := (Array.getD_eq_getD_getElem? ..).symm.trans d3
                rw [if_pos (wanted_none rfl)]
                have hcv := conv_rdn rfl r3
                refine grow_same (v := .string ⟨(b).toArray⟩) ?_ rfl
                clear old dep ho hsz hb r3
                go_simp
              | 5, ho =>
                obtain rfl := Option.some.inj ho
                have d2 : a.tmps.getD 146 undef = .string ⟨(portL acc).toArray⟩ := dep 2 _ _ (by kernel_rfl) rfl rfl
                have e2 : a.tmps[146]?.getD undef = _ := (Array.getD_eq_getD_getElem? ..).symm.trans d2
                have d4 : a.tmps.getD 148 undef = .string ⟨(b).toArray⟩ := dep 4 _ _ (by kernel_rfl) rfl rfl
                have e4 : a.tmps[148]?.getD undef = _ := (Array.getD_eq_getD_getElem? ..).symm.trans d4
                rw [if_pos (wanted_none rfl)]
                refine grow_same (v := .bool false) ?_ rfl
                clear old dep ho hsz hb
                go_simp
              | i + 6, ho => exact absurd ho (by simp)
            · intro a w7 hb hsz hdf fin keep
              obtain ⟨tm, df⟩ := a
              have hx := frame_of [144, 145, 146, 147, 148, 149] (by kernel_rfl) hsz keep
              dsimp only at hdf hx
              simp only [List.foldl_cons, List.foldl_nil] at hx
              subst hdf
              clear hsz keep
              have kn : tm.getD 144 undef = .slice A3 n3 c3 := fin 0 _ _ rfl rfl
              rw [kn] at hx
              clear kn
              obtain ⟨A145, C145, kn, R145⟩ : ∃ A c, tm.getD 145 undef = .slice A (portL acc).length c ∧ Rd w7 (.slice A (portL acc).length c) (u8s (portL acc)) := fin 1 _ _ rfl rfl
              rw [kn] at hx
              clear kn
              clear R145
              have kn : tm.getD 146 undef = .string ⟨(portL acc).toArray⟩ := fin 2 _ _ rfl rfl
              rw [kn] at hx
              clear kn
              obtain ⟨A147, C147, kn, R147⟩ : ∃ A c, tm.getD 147 undef = .slice A b.length c ∧ Rd w7 (.slice A b.length c) (u8s (b)) := fin 3 _ _ rfl rfl
              rw [kn] at hx
              clear kn
              clear R147
              have kn : tm.getD 148 undef = .string ⟨(b).toArray⟩ := fin 4 _ _ rfl rfl
              rw [kn] at hx
              clear kn
              have kn : tm.getD 149 undef = .bool false := fin 5 _ _ rfl rfl
              rw [kn] at hx
              clear kn
              clear fin
              simp only [List.setIfInBounds_toArray, List.set_cons_succ, List.set_cons_zero] at hx
              subst hx
              by_cases hfew : n ≤ 30
              · have g1 : ¬ (30 : Int) < (n : Int) := by omega
                have HF := hide (show acc.length ≤ 30 by have := HNL.out; omega)
                clear hfew f1
                go_wp2
                refine bodyPost_ret (v := .tuple #[.slice A3 n3 c3, .int .i64 0]) (by simp [results, Try.results17, go_sem]) rfl ⟨_, _, rfl, ?_⟩
                obtain ⟨F, hF⟩ := hs.out.below hb
                obtain ⟨k1, k2, k3⟩ := hF.rowof (i := 0) rfl
                exact HPP.out _ _ _ ⟨acc, .ok _ HPO.out HF.out, k1, k3, k2⟩
              · have g1 : (30 : Int) < (n : Int) := by omega
                have HF := hide (show 30 < acc.length by have := HNL.out; omega)
                clear hfew f1
                go_wp2
                refine bodyPost_ret (v := .tuple #[.slice none 0 0, .int .i64 7]) (by simp [results, Try.results17, go_sem]) rfl ⟨_, _, rfl, ?_⟩
                exact HPP.out _ _ _ ⟨[], .quota _ HPO.out HF.out, Kd.Row.nil _ _, (fun k e => by cases e), (hs.out.below hb).bel⟩
          · have f1 : (portL acc == b) = false := beq_eq_false_iff_ne.2 he
            have HBAD : Hid (∀ l, ¬ PortOf b l) := hide (fun l h => he (by rw [← HALL.out l h]; exact h.eq))
            clear he
            refine region_grows [Say.is (.slice A3 n3 c3), Say.rd (portL acc).length (portL acc), Say.is (.string ⟨(portL acc).toArray⟩), Say.rd b.length (b), Say.is (.string ⟨(b).toArray⟩), Say.is (.bool true)] (by kernel_rfl) (by kernel_rfl) (by kernel_rfl) (by kernel_rfl) ?_ ?_
            · intro i o ho a w2 hb hsz old dep
              match i, ho with
              | 0, ho =>
                obtain rfl := Option.some.inj ho
                have o6 : a.tmps.getD 6 undef = _ := old 6 (by kernel_rfl)
                rw [if_pos (wanted_none rfl)]
                refine grow_same (v := .slice A3 n3 c3) ?_ rfl
                clear old dep ho hsz hb
                go_simp
              | 1, ho =>
                obtain rfl := Option.some.inj ho
                have d0 : a.tmps.getD 144 undef = .slice A3 n3 c3 := dep 0 _ _ (by kernel_rfl) rfl rfl
                have e0 : a.tmps[144]?.getD undef = _ := (Array.getD_eq_getD_getElem? ..).symm.trans d0
                rw [if_pos (wanted_none rfl)]
                refine grow_enters (f := 16) (args := #[.slice A3 n3 c3]) ?_ (bytes_rd (HRWS.out.below hb) HFW.out)
                clear old dep ho hsz hb
                go_simp
              | 2, ho =>
                obtain rfl := Option.some.inj ho
                obtain ⟨A1, C1, d1, r1⟩ : ∃ A c, a.tmps.getD 145 undef = .slice A (portL acc).length c ∧ Rd w2 (.slice A (portL acc).length c) (u8s (portL acc)) := dep 1 _ _ (by kernel_rfl) rfl rfl
                have e1 : a.tmps[145]?.getD undef = _ := (Array.getD_eq_getD_getElem? ..).symm.trans d1
                rw [if_pos (wanted_none rfl)]
                have hcv := conv_rdn rfl r1
                refine grow_same (v := .string ⟨(portL acc).toArray⟩) ?_ rfl
                clear old dep ho hsz hb r1
                go_simp
              | 3, ho =>
                obtain rfl := Option.some.inj ho
                have o0 : a.tmps.getD 0 undef = _ := old 0 (by kernel_rfl)
                rw [if_pos (wanted_none rfl)]
                refine grow_same (v := .slice (some ⟨bb, o, none⟩) b.length c) ?_ ⟨_, _, rfl, (HVR.out.below hb)⟩
                clear old dep ho hsz hb
                go_simp
              | 4, ho =>
                obtain rfl := Option.some.inj ho
                obtain ⟨A3, C3, d3, r3⟩ : ∃ A c, a.tmps.getD 147 undef = .slice A b.length c ∧ Rd w2 (.slice A b.length c) (u8s (b)) := dep 3 _ _ (by kernel_rfl) rfl rfl
                have e3 : a.tmps[147]?.getD undef = _ := (Array.getD_eq_getD_getElem? ..).symm.trans d3
                rw [if_pos (wanted_none rfl)]
                have hcv := conv_rdn rfl r3
                refine grow_same (v := .string ⟨(b).toArray⟩) ?_ rfl
                clear old dep ho hsz hb r3
                go_simp
              | 5, ho =>
                obtain rfl := Option.some.inj ho
                have d2 : a.tmps.getD 146 undef = .string ⟨(portL acc).toArray⟩ := dep 2 _ _ (by kernel_rfl) rfl rfl
                have e2 : a.tmps[146]?.getD undef = _ := (Array.getD_eq_getD_getElem? ..).symm.trans d2
                have d4 : a.tmps.getD 148 undef = .string ⟨(b).toArray⟩ := dep 4 _ _ (by kernel_rfl) rfl rfl
                have e4 : a.tmps[148]?.getD undef = _ := (Array.getD_eq_getD_getElem? ..).symm.trans d4
                rw [if_pos (wanted_none rfl)]
                refine grow_same (v := .bool true) ?_ rfl
                clear old dep ho hsz hb
                go_simp
              | i + 6, ho => exact absurd ho (by simp)
            · intro a w7 hb hsz hdf fin keep
              obtain ⟨tm, df⟩ := a
              have hx := frame_of [144, 145, 146, 147, 148, 149] (by kernel_rfl) hsz keep
              dsimp only at hdf hx
              simp only [List.foldl_cons, List.foldl_nil] at hx
              subst hdf
              clear hsz keep
              have kn : tm.getD 144 undef = .slice A3 n3 c3 := fin 0 _ _ rfl rfl
              rw [kn] at hx
              clear kn
              obtain ⟨A145, C145, kn, R145⟩ : ∃ A c, tm.getD 145 undef = .slice A (portL acc).length c ∧ Rd w7 (.slice A (portL acc).length c) (u8s (portL acc)) := fin 1 _ _ rfl rfl
              rw [kn] at hx
              clear kn
              clear R145
              have kn : tm.getD 146 undef = .string ⟨(portL acc).toArray⟩ := fin 2 _ _ rfl rfl
              rw [kn] at hx
              clear kn
              obtain ⟨A147, C147, kn, R147⟩ : ∃ A c, tm.getD 147 undef = .slice A b.length c ∧ Rd w7 (.slice A b.length c) (u8s (b)) := fin 3 _ _ rfl rfl
              rw [kn] at hx
              clear kn
              clear R147
              have kn : tm.getD 148 undef = .string ⟨(b).toArray⟩ := fin 4 _ _ rfl rfl
              rw [kn] at hx
              clear kn
              have kn : tm.getD 149 undef = .bool true := fin 5 _ _ rfl rfl
              rw [kn] at hx
              clear kn
              clear fin
              simp only [List.setIfInBounds_toArray, List.set_cons_succ, List.set_cons_zero] at hx
              subst hx
              go_wp2
              refine bodyPost_ret (v := .tuple #[.slice none 0 0, .int .i64 9]) (by simp [results, Try.results17, go_sem]) rfl ⟨_, _, rfl, ?_⟩
              exact HPP.out _ _ _ ⟨[], .form HBAD.out, Kd.Row.nil _ _, (fun k e => by cases e), (hs.out.below hb).bel⟩
    · have HNO : Hid (∀ l, ¬ PortOf b l) := hide (fun l h => hhd h.take4)
      have hf1 : (b.take 4 == [84, 78, 77, 49]) = false := by rw [beq_eq_false_iff_ne]; exact hhd
      clear hhd hb4 hb5
      go_enter Try.func17, Try.ntmps17
      go_wp2
      refine bodyPost_ret (v := .tuple #[.slice none 0 0, .int .i64 9]) (by simp [results, Try.results17, go_sem]) rfl ⟨_, _, rfl, ?_⟩
      exact HPP.out _ _ _ ⟨[], .form HNO.out, Kd.Row.nil _ _, (fun k e => by cases e), Below.refl _ _⟩
end Go.Proofs.Ythkocbfioegcnaa
