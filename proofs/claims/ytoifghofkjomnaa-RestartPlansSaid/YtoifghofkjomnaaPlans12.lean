/-
  RestartPlans' walk: whole.
-/
import Derived.Test.YtoifghofkjomnaaPlc12
import Derived.Test.YtoifghofkjomnaaMute12
import Derived.BigQuiet
import Derived.Deep.CutBlock
namespace Go.Proofs.Ytoifghofkjomnaa
open Go.RowKit
set_option maxRecDepth 100000
set_option linter.unusedSimpArgs false
set_option linter.unusedVariables false

theorem an_pl (HAN : AnSaid) {A0 W : World} {F0 : Nat → Prop} {L : List Res} {i : Nat} {v : Value} {es : List Ei} (h : Ow A0 F0 W L) (hi : L[i]? = some (Res.row eiK v es)) (hd : ∀ x ∈ es, DOk W x) (hl : es.length ≤ 1000) :
    Calls Try.prog 12 #[v] W fun e W' => ∃ (f5 : Nat) (A5 : Nat → Option Addr) (n5 c5 : Nat → Nat) (o5 : Nat → Bool), e = .returned (.agg #[.int .u64 (f5 : Int), .slice (A5 0) (n5 0) (c5 0), .slice (A5 1) (n5 1) (c5 1), .slice (A5 2) (n5 2) (c5 2), .slice (A5 3) (n5 3) (c5 3), .bool (o5 0), .bool (o5 1), .bool (o5 2), .bool (o5 3)]) ∧ Ow A0 F0 W' (L ++ [Res.kins chK 4 (fun t => .slice (A5 t) (n5 t) (c5 t)) (loP es)]) ∧ Hid (f5 = frP es ∧ (∀ t, n5 t = (loP es t).length) ∧ ∀ t, o5 t = opP es t) := by
  refine (ow_an HAN h hi hd hl).mono ?_
  rintro e W' ⟨A, c, rfl, h1, _⟩
  exact ⟨frP es, A, fun t => (loP es t).length, c, opP es, rfl, h1, hide ⟨rfl, fun t => rfl, fun t => rfl⟩⟩
set_option maxHeartbeats 32000000 in
theorem plans_walk (HAN : AnSaid) (v : Value) (l : List SeedD) (w : World) (hv : SeedRow w w.heap.size v l) : Calls Try.prog 3 #[v] w fun e w' => e = .returned (.bool true) ∧ Below w.heap.size w w' := by
  have HAN2 := hide HAN
  clear HAN
  have HV := hide hv
  clear hv
  cases hlb : lightB l with
  | false =>
    go_enter Try.func3, Try.ntmps3
    go_wp2_with (first
      | (go_at_call 9; (with_reducible refine (fit_any HAN2.out _).mono ?_); rintro e w1 ⟨rfl, hb1⟩; have HB := hide hb1; have HK1 := hide (light_any ((SeedRow.below HV.out hb1).more hb1.size)); clear hb1; rw [hlb] at HK1)
      | (go_at_call 10; (with_reducible refine HK1.out.mono ?_); rintro e w2 ⟨rfl, hb2⟩; clear HK1; have HB := hide (HB.out.trans (hb2.mono HB.out.size)); clear hb2))
    go_ret
    exact ⟨rfl, HB.out⟩
  | true =>
    have HL := hide (lightB_iff.1 hlb).1
    go_enter Try.func3, Try.ntmps3
    go_wp2_with (first
      | (go_at_call 9; (with_reducible refine (fit_any HAN2.out _).mono ?_); rintro e w1 ⟨rfl, hb1⟩; have HB := hide hb1; have HK1 := hide (light_any ((SeedRow.below HV.out hb1).more hb1.size)); clear hb1; rw [hlb] at HK1)
      | (go_at_call 10; (with_reducible refine HK1.out.mono ?_); rintro e w2 ⟨rfl, hb2⟩; clear HK1; have HB := hide (HB.out.trans (hb2.mono HB.out.size)); clear hb2; have HK2 := hide (entries_any ((SeedRow.below HV.out HB.out).more HB.out.size) HL.out))
      | (go_at_call 11; (with_reducible refine HK2.out.mono ?_); rintro e w3 ⟨u, es, rfl, hes, hs⟩; clear HK2; obtain ⟨Au, cu, rfl⟩ := (hs.krow (i := 0) rfl).form
         have HES := hide hes
         have HLN := hide (show es.length ≤ 100 by rw [hes.len]; exact HL.out)
         have HKP := hide (an_pl HAN2.out hs (i := 0) rfl (hs.dirt (i := 1) rfl) (by rw [hes.len]; have := HL.out; omega)); clear hs hes)
      | (go_at_call 12; (with_reducible refine HKP.out.mono ?_); rintro e w5 ⟨f5, A5, n5, c5, o5, rfl, h5, HF5⟩; clear HKP
         have S5 := hide h5; clear h5))
    have S0 : Hid (Ow w2 (fun _ => False) (((w5.alloc (.cells #[.int .u64 (f5 : Int), .slice (A5 0) (n5 0) (c5 0), .slice (A5 1) (n5 1) (c5 1), .slice (A5 2) (n5 2) (c5 2), .slice (A5 3) (n5 3) (c5 3), .bool (o5 0), .bool (o5 1), .bool (o5 2), .bool (o5 3)] 32)).alloc (.cells #[.slice none 0 0, .slice none 0 0, .slice none 0 0, .slice none 0 0, .slice none 0 0, .slice none 0 0, .slice none 0 0, .slice none 0 0] 34)).alloc (.cells #[.bool false, .bool false, .bool false, .bool false, .bool false, .bool false, .bool false, .bool false] 35)) (LQ (Res.row eiK (.slice Au es.length cu) es) (Res.dirt es) (Res.kins chK 4 (fun t => .slice (A5 t) (n5 t) (c5 t)) (loP es)) (Res.blk w5.heap.size 32 #[.int .u64 (f5 : Int), .slice (A5 0) (n5 0) (c5 0), .slice (A5 1) (n5 1) (c5 1), .slice (A5 2) (n5 2) (c5 2), .slice (A5 3) (n5 3) (c5 3), .bool (o5 0), .bool (o5 1), .bool (o5 2), .bool (o5 3)]) (w5.heap.size + 1) (w5.heap.size + 2) (fun _ => .slice none 0 0) (fun _ => .slice none 0 0) (opA (es.take 0)) (loA (es.take 0)))) := hide (by
      have h1 := S5.out.box 32 #[.int .u64 (f5 : Int), .slice (A5 0) (n5 0) (c5 0), .slice (A5 1) (n5 1) (c5 1), .slice (A5 2) (n5 2) (c5 2), .slice (A5 3) (n5 3) (c5 3), .bool (o5 0), .bool (o5 1), .bool (o5 2), .bool (o5 3)]
      have h2 := h1.box 34 #[.slice none 0 0, .slice none 0 0, .slice none 0 0, .slice none 0 0, .slice none 0 0, .slice none 0 0, .slice none 0 0, .slice none 0 0]
      rw [show (w5.alloc (.cells #[.int .u64 (f5 : Int), .slice (A5 0) (n5 0) (c5 0), .slice (A5 1) (n5 1) (c5 1), .slice (A5 2) (n5 2) (c5 2), .slice (A5 3) (n5 3) (c5 3), .bool (o5 0), .bool (o5 1), .bool (o5 2), .bool (o5 3)] 32)).heap.size = w5.heap.size + 1 by simp] at h2
      have h3 := h2.box 35 #[.bool false, .bool false, .bool false, .bool false, .bool false, .bool false, .bool false, .bool false]
      rw [show ((w5.alloc (.cells #[.int .u64 (f5 : Int), .slice (A5 0) (n5 0) (c5 0), .slice (A5 1) (n5 1) (c5 1), .slice (A5 2) (n5 2) (c5 2), .slice (A5 3) (n5 3) (c5 3), .bool (o5 0), .bool (o5 1), .bool (o5 2), .bool (o5 3)] 32)).alloc (.cells #[.slice none 0 0, .slice none 0 0, .slice none 0 0, .slice none 0 0, .slice none 0 0, .slice none 0 0, .slice none 0 0, .slice none 0 0] 34)).heap.size = w5.heap.size + 2 by simp] at h3
      rw [List.take_zero]
      exact h3.newrows chK 8)
    generalize (((w5.alloc (.cells #[.int .u64 (f5 : Int), .slice (A5 0) (n5 0) (c5 0), .slice (A5 1) (n5 1) (c5 1), .slice (A5 2) (n5 2) (c5 2), .slice (A5 3) (n5 3) (c5 3), .bool (o5 0), .bool (o5 1), .bool (o5 2), .bool (o5 3)] 32)).alloc (.cells #[.slice none 0 0, .slice none 0 0, .slice none 0 0, .slice none 0 0, .slice none 0 0, .slice none 0 0, .slice none 0 0, .slice none 0 0] 34)).alloc (.cells #[.bool false, .bool false, .bool false, .bool false, .bool false, .bool false, .bool false, .bool false] 35)) = w6 at *
    generalize hob : w5.heap.size + 2 = ob at *
    generalize hlq : w5.heap.size + 1 = lb at *
    generalize hpb : w5.heap.size = pb at *
    clear hob hlq hpb S5
    go_loopw [5, 25] (fun m i wr => ∃ (j f : Nat) (vs : Nat → Value), j ≤ es.length ∧ i = .int .i64 j ∧ m = .int .u64 (f : Int) ∧ Hid (f = frP (es.take j)) ∧ Hid (Ow w2 (fun _ => False) wr (LQ (Res.row eiK (.slice Au es.length cu) es) (Res.dirt es) (Res.kins chK 4 (fun t => .slice (A5 t) (n5 t) (c5 t)) (loP es)) (Res.blk pb 32 #[.int .u64 (f5 : Int), .slice (A5 0) (n5 0) (c5 0), .slice (A5 1) (n5 1) (c5 1), .slice (A5 2) (n5 2) (c5 2), .slice (A5 3) (n5 3) (c5 3), .bool (o5 0), .bool (o5 1), .bool (o5 2), .bool (o5 3)]) lb ob vs vs (opA (es.take j)) (loA (es.take j))))) (fun _ i _ => es.length - (intOf i).toNat)
    case atStart => exact ⟨0, 0, _, by omega, rfl, rfl, hide rfl, S0⟩
    case round =>
      clear S0
      obtain ⟨j, f, vs, hj, rfl, rfl, hf, hs⟩ := hrel
      by_cases hlt : j < es.length
      · obtain ⟨x, hc⟩ : ∃ x, es[j]? = some x := ⟨_, List.getElem?_eq_getElem hlt⟩
        obtain ⟨b1, rfl, i0, i1, i2, i3, i4, i5, i6, i7, i8⟩ := hs.out.entry (i := 0) rfl hc
        have q0 : (0 : Int) ≤ (j : Int) := by omega
        have q1 : (j : Int) < (es.length : Int) := by omega
        have HOK := hide (HES.out.ok (List.mem_of_getElem? hc))
        have HLT := hide (show j < es.length ∧ es.length ≤ 100 from ⟨hlt, HLN.out⟩)
        have HTK : Hid (es.take (j + 1) = es.take j ++ [x]) := hide (by rw [List.take_add_one, hc]; rfl)
        have qn : (es.length : Int) ≤ 100 := by have := HLN.out; omega
        have HMEM := hide (List.mem_of_getElem? hc)
        have SB := hide (hs.out.box 40 #[.int .i64 (x.r.k : Int), .int .i64 (x.r.t : Int), .int .i64 (x.r.p : Int), .int .i64 (x.r.s : Int), .string x.r.b, .string x.r.a, .string x.r.i, .slice x.A x.r.ds.length x.c, .int .u64 (x.pl : Int)])
        have HLO : Hid ((loA (es.take j) x.r.t).length ≤ 1000) := hide (Nat.le_trans (loA_length (es.take j) x.r.t) (by rw [List.length_take]; omega))
        clear hlt hc
        go_upto_block 2 with (fail)
        refine pl_all SB.out HOK.out.2.1 HLO.out HOK.out.1 (SB.out.dirt (i := 1) rfl x HMEM.out) ?_
        intro v11 v32 v33 v34 v35 v36 v37 v38 v39 v40 v41 v42 v43 v44 v45 v46 v47 v48 v49 v50 v51 v52 v53 v54 v55 v56 v57 v58 v59 v60 v61 v62 v63 v64 v65 v66 v67 v68 v69 v70 v71 v72 v73 v74 v75 v76 v77 v78 v79 v80 v81 v82 v83 v84 v85 v86 v87 v88 v89 v90 v91 v92 v93 v94 v95 v96 v97 v98 v99 v100 v101 v102 v103 v104 v105 v106 v107 v108 v109 v110 v111 w9 vs' h9
        have HE : Hid (Ow w2 (fun _ => False) w9 (LQ (Res.row eiK (.slice (some ⟨b1, 0, none⟩) es.length cu) es) (Res.dirt es) (Res.kins chK 4 (fun t => .slice (A5 t) (n5 t) (c5 t)) (loP es)) (Res.blk pb 32 #[.int .u64 (f5 : Int), .slice (A5 0) (n5 0) (c5 0), .slice (A5 1) (n5 1) (c5 1), .slice (A5 2) (n5 2) (c5 2), .slice (A5 3) (n5 3) (c5 3), .bool (o5 0), .bool (o5 1), .bool (o5 2), .bool (o5 3)]) lb ob vs' vs' (opA (es.take (j + 1))) (loA (es.take (j + 1))))) := hide (by
          have h9 := h9.take 7
          rw [HTK.out, ← loA_snoc, ← opA_snoc]
          exact h9)
        have HFR : Hid (frS f x = frP (es.take (j + 1))) := hide (by rw [HTK.out, frP_snoc, hf.out])
        clear h9 i0 i1 i2 i3 i4 i5 i6 i7 i8
        go_wp2
        go_roundw
        case rel => exact ⟨j + 1, frS f x, vs', by have := HLT.out; omega, by go_num, rfl, HFR, HE⟩
        case measure => simp [intOf]; have := HLT.out; omega
      · obtain rfl : j = es.length := by omega
        have HFR : Hid (f = frP es) := hide (by have := hf.out; rwa [List.take_length] at this)
        have S1 : Hid (Ow w2 (fun _ => False) wr (LQ (Res.row eiK (.slice Au es.length cu) es) (Res.dirt es) (Res.kins chK 4 (fun t => .slice (A5 t) (n5 t) (c5 t)) (loP es)) (Res.blk pb 32 #[.int .u64 (f5 : Int), .slice (A5 0) (n5 0) (c5 0), .slice (A5 1) (n5 1) (c5 1), .slice (A5 2) (n5 2) (c5 2), .slice (A5 3) (n5 3) (c5 3), .bool (o5 0), .bool (o5 1), .bool (o5 2), .bool (o5 3)]) lb ob vs vs (opA es) (loA es))) := hide (by have := hs.out; rwa [List.take_length] at this)
        have HLA : Hid (∀ t, (loA es t).length ≤ 1000) := hide (fun t => Nat.le_trans (loA_length es t) (by have := HLN.out; omega))
        clear hlt hj hf hs
        go_wp2
        go_loopw [12] (fun i wr => ∃ j : Nat, 1 ≤ j ∧ j ≤ 4 ∧ i = .int .i64 j ∧ Hid (Ow w2 (fun _ => False) wr (LQ (Res.row eiK (.slice Au es.length cu) es) (Res.dirt es) (Res.kins chK 4 (fun t => .slice (A5 t) (n5 t) (c5 t)) (loP es)) (Res.blk pb 32 #[.int .u64 (f5 : Int), .slice (A5 0) (n5 0) (c5 0), .slice (A5 1) (n5 1) (c5 1), .slice (A5 2) (n5 2) (c5 2), .slice (A5 3) (n5 3) (c5 3), .bool (o5 0), .bool (o5 1), .bool (o5 2), .bool (o5 3)]) lb ob vs vs (opA es) (loA es)))) (fun i _ => 4 - (intOf i).toNat)
        case atStart => exact ⟨1, by omega, by omega, rfl, S1⟩
        case round =>
          clear S1
          obtain ⟨j, hj1, hj4, rfl, hs⟩ := hrel
          obtain rfl | rfl | rfl | rfl : j = 1 ∨ j = 2 ∨ j = 3 ∨ j = 4 := by omega
          · clear hj1 hj4
            go_upto_block 6 with (fail)
            refine pc1 hs.out (HF5.out.2.1 1) ((HF5.out.2.2 1).trans (opA_in es (by omega))) (loA_in es (by omega)) (HLA.out 1) ?_
            intro v2 v13 v117 v118 v119 v120 v121 v122 v123 v124 v125 v126 v127 v128 v129 v130 v131 v132 v133 v134 v135 v136 v137 v138 v139 v140 v141 v142 v143 v144 v145 v146 v147 v148 v149 v150 v151 v152 v153 v154 v155 v156 v157 v158 w9 h9
            have HE := hide h9
            clear h9
            go_wp2
            go_roundw
            case rel => exact ⟨2, by omega, by omega, by go_num, HE⟩
            case measure => simp [intOf]
          · clear hj1 hj4
            go_upto_block 6 with (fail)
            refine pc2 hs.out (HF5.out.2.1 2) ((HF5.out.2.2 2).trans (opA_in es (by omega))) (loA_in es (by omega)) (HLA.out 2) ?_
            intro v2 v13 v117 v118 v119 v120 v121 v122 v123 v124 v125 v126 v127 v128 v129 v130 v131 v132 v133 v134 v135 v136 v137 v138 v139 v140 v141 v142 v143 v144 v145 v146 v147 v148 v149 v150 v151 v152 v153 v154 v155 v156 v157 v158 w9 h9
            have HE := hide h9
            clear h9
            go_wp2
            go_roundw
            case rel => exact ⟨3, by omega, by omega, by go_num, HE⟩
            case measure => simp [intOf]
          · clear hj1 hj4
            go_upto_block 6 with (fail)
            refine pc3 hs.out (HF5.out.2.1 3) ((HF5.out.2.2 3).trans (opA_in es (by omega))) (loA_in es (by omega)) (HLA.out 3) ?_
            intro v2 v13 v117 v118 v119 v120 v121 v122 v123 v124 v125 v126 v127 v128 v129 v130 v131 v132 v133 v134 v135 v136 v137 v138 v139 v140 v141 v142 v143 v144 v145 v146 v147 v148 v149 v150 v151 v152 v153 v154 v155 v156 v157 v158 w9 h9
            have HE := hide h9
            clear h9
            go_wp2
            go_roundw
            case rel => exact ⟨4, by omega, by omega, by go_num, HE⟩
            case measure => simp [intOf]
          · have hP := hs.out.blk (i := 3) rfl
            obtain ⟨p0, p1, p2, p3, p4, p5, p6, p7, p8⟩ := hP.nine
            have e1 : f5 = f := by rw [HF5.out.1, HFR.out]
            have e2 : o5 0 = false := by rw [HF5.out.2.2]; exact opP_out _ (by omega)
            have e3 : n5 0 = 0 := by rw [HF5.out.2.1, loP_out _ (by omega)]; rfl
            rw [e1] at p0
            rw [e2] at p5
            rw [e3] at p1
            clear hP e1 e2 e3 hj1 hj4
            go_wp2
            go_ret
            exact ⟨rfl, HB.out.trans (hs.out.bel.mono HB.out.size)⟩
end Go.Proofs.Ytoifghofkjomnaa
