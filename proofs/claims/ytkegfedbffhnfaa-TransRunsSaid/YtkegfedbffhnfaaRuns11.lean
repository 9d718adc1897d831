/-
  TransRuns' walk: whole.
-/
import Derived.Test.YtkegfedbffhnfaaRkAll
import Derived.Deep.CutBlock
namespace Go.Proofs.Ytkegfedbffhnfaa
open Go.RowKit
set_option maxRecDepth 100000
set_option linter.unusedSimpArgs false
set_option linter.unusedVariables false

theorem mod6 (x : Int) : ∃ m : Nat, m < 6 ∧ (wrap64 (x.tmod 6 + 6)).tmod 6 = (m : Int) := by
  have h1 := Int.tmod_lt_of_pos x (show (0 : Int) < 6 by decide)
  have h2 := Int.lt_tmod_of_pos x (show (0 : Int) < 6 by decide)
  have e1 : wrap64 (x.tmod 6 + 6) = x.tmod 6 + 6 := by unfold wrap64; omega
  rw [e1]
  have h3 := Int.tmod_lt_of_pos (x.tmod 6 + 6) (show (0 : Int) < 6 by decide)
  have h4 := Int.tmod_nonneg (a := x.tmod 6 + 6) 6 (by omega)
  exact ⟨((x.tmod 6 + 6).tmod 6).toNat, by omega, by omega⟩
set_option maxHeartbeats 16000000 in
theorem runs_walk (v : Value) (l : List TCall) (w : World) (hv : TCallRow w w.heap.size v l) : Calls Try.prog 3 #[v] w fun e w' => e = .returned (.bool true) ∧ Below w.heap.size w w' := by
  obtain ⟨⟨A0, cap, rfl, hlc, _⟩, _⟩ := id hv
  have HV := hide hv
  clear hv hlc
  by_cases hlen : l.length ≤ 200
  · have hl1 : ¬ (200 : Int) < (l.length : Int) := by omega
    have hl2 : (l.length : Int) ≤ 200 := by omega
    have HFEW := hide hlen
    clear hlen
    go_enter Try.func3, Try.ntmps3
    go_wp2_with (go_at_call 9; (with_reducible refine (fit_any _).mono ?_); rintro e w0 ⟨rfl, hb⟩; have S0 := hide ((Ow.start w).below hb); clear hb)
    have S1 : Hid (Ow w (fun _ => False) ((w0.alloc (.cells #[.pointer none, .pointer none, .pointer none, .pointer none] 27)).alloc (.cells #[.pointer none, .pointer none, .pointer none, .pointer none] 29)) [Res.tt w0.heap.size noT, Res.tab layM 29 (w0.heap.size + 1) noT]) := hide (by
      have h := (S0.out.newtab layT 27).newtab layM 29
      rw [World.size_alloc] at h
      exact h)
    generalize ((w0.alloc (.cells #[.pointer none, .pointer none, .pointer none, .pointer none] 27)).alloc (.cells #[.pointer none, .pointer none, .pointer none, .pointer none] 29)) = w1 at *
    generalize hob : w0.heap.size + 1 = mb at *
    generalize w0.heap.size = g at *
    clear hob S0
    go_loopw [23] (fun i wr => ∃ (j : Nat), j ≤ l.length ∧ i = .int .i64 j ∧ Hid (∃ R M, Ow w (fun _ => False) wr [Res.tt g R, Res.tab layM 29 mb M] ∧ RelT R M ∧ ∀ i x t, R i = some (x, t) → t.l.length ≤ j ∧ t.ops ≤ j)) (fun i _ => l.length - (intOf i).toNat)
    case atStart => exact ⟨0, by omega, rfl, hide ⟨noT, noT, S1.out, fun i => rfl, fun i x t e => by cases e⟩⟩
    case round =>
      clear S1
      obtain ⟨j, hj, rfl, hsh⟩ := hrel
      obtain ⟨R, M, hs, hrel, hfew⟩ := hsh.out
      by_cases hlt : j < l.length
      · obtain ⟨⟨ck, cn, ca, ⟨pg, sl, bf⟩⟩, hc⟩ : ∃ c, l[j]? = some c := ⟨_, List.getElem?_eq_getElem hlt⟩
        obtain ⟨_, b1, o1, rfl, ⟨i0, i1, i2, i3, i4, i5⟩, _⟩ := tcall_cells HV.out hs.bel hc
        dsimp only at i0 i1 i2 i3 i4 i5
        have q0 : (0 : Int) ≤ (j : Int) := by omega
        have q1 : (j : Int) < (l.length : Int) := by omega
        have HLT := hide hlt
        obtain ⟨n, hn4, hand⟩ := and3 cn
        obtain ⟨k, hk6, hmod⟩ := mod6 ck
        have hsb := hs.box 33 #[.int .i64 ck, .int .i64 cn, .int .i64 ca, .int .i64 pg, .int .i64 sl, .string bf]
        have HRS : Hid (RunS w (wr.alloc (.cells #[.int .i64 ck, .int .i64 cn, .int .i64 ca, .int .i64 pg, .int .i64 sl, .string bf] 33)) g mb wr.heap.size #[.int .i64 ck, .int .i64 cn, .int .i64 ca, .int .i64 pg, .int .i64 sl, .string bf] R M j) := hide ⟨hsb, hrel, hfew⟩
        have c0 := (hsb.tblk (i := 1) rfl).cell n _ (cellsT_at M hn4)
        have d0 := (hsb.blk (i := 2) rfl).cell 0 _ rfl
        have d1 := (hsb.blk (i := 2) rfl).cell 1 _ rfl
        have d5 := (hsb.blk (i := 2) rfl).cell 5 _ rfl
        have n0 : (0 : Int) ≤ (n : Int) := by omega
        have n4 : (n : Int) < 4 := by omega
        have HN4 := hide hn4
        have HK6 := hide hk6
        have HSB := hide hsb
        clear hs hrel hfew hsh hc hlt hn4 hk6 hsb
        by_cases hbig : bf.size ≤ 100
        · have hbi : ¬ (100 : Int) < (bf.size : Int) := by omega
          clear hbig
          go_upto_block 2 with (fail)
          refine rk_all HRS.out (by have := HLT.out; have := HFEW.out; omega) HN4.out HK6.out ?_
          intro v9 v10 v11 v12 v13 v14 v15 v43 v44 v45 v46 v47 v48 v49 v50 v51 v52 v53 v54 v55 v56 v57 v58 v59 v60 v61 v62 v63 v64 v65 v66 v67 v68 v69 v70 v71 v72 v73 v74 v75 v76 v77 v78 v79 v80 v81 v82 v83 v84 v85 v86 v87 v88 v89 v90 v91 v92 v93 v94 v95 v96 v97 v98 v99 v100 v101 v102 v103 v104 v105 v106 v107 v108 v109 v110 v111 v112 v113 v114 v115 v116 v117 v118 v119 v120 v121 v122 v123 v124 v125 v126 v127 v128 v129 v130 v131 v132 v133 v134 v135 v136 v137 v138 v139 v140 v141 v142 v143 v144 v145 v146 v147 v148 v149 v150 v151 v152 v153 v154 v155 v156 v157 v158 v159 v160 v161 v162 v163 v164 v165 v166 v167 v168 v169 v170 v171 v172 v173 v174 v175 v176 v177 v178 v179 v180 v181 v182 v183 v184 v185 v186 v187 v188 v189 v190 v191 v192 v193 v194 v195 v196 v197 v198 v199 v200 v201 v202 v203 v204 v205 v206 v207 v208 v209 v210 v211 v212 v213 v214 v215 v216 v217 v218 v219 v220 v221 v222 v223 v224 v225 v226 v227 v228 v229 v230 v231 v232 v233 v234 v235 v236 v237 v238 v239 w5 R' M' hrun
          have HR5 := hide hrun
          have how := hrun.ow
          have e0 := (how.tblk (i := 1) rfl).cell 0 _ (cellsT_at M' (by decide))
          have e1 := (how.tblk (i := 1) rfl).cell 1 _ (cellsT_at M' (by decide))
          have e2 := (how.tblk (i := 1) rfl).cell 2 _ (cellsT_at M' (by decide))
          have e3 := (how.tblk (i := 1) rfl).cell 3 _ (cellsT_at M' (by decide))
          have HSAME : Hid (Calls Try.prog 17 #[.pointer (some ⟨g, 0, none⟩), .agg #[pv (M' 0), pv (M' 1), pv (M' 2), pv (M' 3)]] w5 fun e w' => e = .returned (.bool true) ∧ Below w5.heap.size w5 w') := hide (by
            obtain ⟨O1, h1⟩ := how.tab (i := 0) rfl
            obtain ⟨O2, h2⟩ := how.tab (i := 1) rfl
            exact same_any h1 h2 hrun.rel (fun i x t e => by have := hrun.few i x t e; have := HLT.out; have := HFEW.out; omega))
          clear hrun how i0 i1 i2 i3 i4 i5 c0 d0 d1 d5 hand hmod
          go_wp2_with (go_at_call 17; (with_reducible refine HSAME.out.mono ?_); rintro e w6 ⟨rfl, hb6⟩; have HE := hide ((HR5.out.ow.below hb6).take 2); clear hb6)
          go_roundw
          case rel => exact ⟨j + 1, by have := HLT.out; omega, by go_num, hide ⟨R', M', HE.out, HR5.out.rel, HR5.out.few⟩⟩
          case measure => simp [intOf]; have := HLT.out; omega
        · have hbi : (100 : Int) < (bf.size : Int) := by omega
          clear hbig
          go_wp2
          go_ret
          exact ⟨rfl, HSB.out.bel⟩
      · obtain rfl : j = l.length := by omega
        have HE := hide hs
        clear hlt hj hs hrel hfew hsh
        go_wp2
        go_ret
        exact ⟨rfl, HE.out.bel⟩
  · have hl1 : (200 : Int) < (l.length : Int) := by omega
    clear hlen
    go_enter Try.func3, Try.ntmps3
    go_wp2_with (go_at_call 9; (with_reducible refine (fit_any _).mono ?_); rintro e w0 ⟨rfl, hb⟩; have S0 := hide ((Ow.start w).below hb); clear hb)
    go_ret
    exact ⟨rfl, S0.out.bel⟩
end Go.Proofs.Ytkegfedbffhnfaa
