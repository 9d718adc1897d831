/-
  TransRuns' walk: Begin.
-/
import Derived.Test.YtkegfedbffhnfaaSub11
namespace Go.Proofs.Ytkegfedbffhnfaa
open Go.RowKit
set_option maxRecDepth 100000
set_option linter.unusedSimpArgs false
set_option linter.unusedVariables false

theorem new_txn (W : World) : ∀ x t, some (W.heap.size, tx0) = some (x, t) → TxIn layM (W.alloc (.cells #[.slice none 0 0, .slice none 0 0, .int .i64 0] 38)) x t (fun k => W.heap.size ≤ k) := by
  intro x t e
  injection e with e
  injection e with e1 e2
  subst e1 e2
  refine ⟨.slice none 0 0, .slice none 0 0, TxP.new_ (y := layM) (t := tx0) (Kd.Row.nil _ _) (Kd.Row.nil _ _) (fun k e => by cases e), fun k hk => ?_⟩
  rcases hk with rfl | hk | hk
  · exact Nat.le_refl _
  · cases hk
  · cases hk
set_option maxHeartbeats 16000000 in
theorem rk0 {w0 w : World} {g mb cb n q : Nat} {R M : Tb} {ck cn ca pg sl : Int} {bf : ByteArray} {xv : Value} {u0 u1 u2 u5 u9 u10 u11 u12 u13 u14 u15 u16 u17 u18 u19 u20 u21 u22 u23 u24 u25 u26 u27 u28 u29 u30 u31 u32 u33 u34 u35 u36 u37 u38 u39 u40 u41 u43 u44 u45 u46 u47 u48 u49 u50 u51 u52 u53 u54 u55 u56 u57 u58 u59 u60 u61 u62 u63 u64 u65 u66 u67 u68 u69 u70 u71 u72 u73 u74 u75 u76 u77 u78 u79 u80 u81 u82 u83 u84 u85 u86 u87 u88 u89 u90 u91 u92 u93 u94 u95 u96 u97 u98 u99 u100 u101 u102 u103 u104 u105 u106 u107 u108 u109 u110 u111 u112 u113 u114 u115 u116 u117 u118 u119 u120 u121 u122 u123 u124 u125 u126 u127 u128 u129 u130 u131 u132 u133 u134 u135 u136 u137 u138 u139 u140 u141 u142 u143 u144 u145 u146 u147 u148 u149 u150 u151 u152 u153 u154 u155 u156 u157 u158 u159 u160 u161 u162 u163 u164 u165 u166 u167 u168 u169 u170 u171 u172 u173 u174 u175 u176 u177 u178 u179 u180 u181 u182 u183 u184 u185 u186 u187 u188 u189 u190 u191 u192 u193 u194 u195 u196 u197 u198 u199 u200 u201 u202 u203 u204 u205 u206 u207 u208 u209 u210 u211 u212 u213 u214 u215 u216 u217 u218 u219 u220 u221 u222 u223 u224 u225 u226 u227 u228 u229 u230 u231 u232 u233 u234 u235 u236 u237 u238 u239 u240 u241 u242 u243 : Value} (h : RunS w0 w g mb cb #[.int .i64 ck, .int .i64 cn, .int .i64 ca, .int .i64 pg, .int .i64 sl, .string bf] R M q) (hq : q ≤ 300) (hn : n < 4)  {Q : Exit → Act → World → Prop}
    (hK : ∀ (v9 v10 v11 v12 v13 v14 v15 v43 v44 v45 v46 v47 v48 v49 v50 v51 v52 v53 v54 v55 v56 v57 v58 v59 v60 v61 v62 v63 v64 v65 v66 v67 v68 v69 v70 v71 v72 v73 v74 v75 v76 v77 v78 v79 v80 v81 v82 v83 v84 v85 v86 v87 v88 v89 v90 v91 v92 v93 v94 v95 v96 v97 v98 v99 v100 v101 v102 v103 v104 v105 v106 v107 v108 v109 v110 v111 v112 v113 v114 v115 v116 v117 v118 v119 v120 v121 v122 v123 v124 v125 v126 v127 v128 v129 v130 v131 v132 v133 v134 v135 v136 v137 v138 v139 v140 v141 v142 v143 v144 v145 v146 v147 v148 v149 v150 v151 v152 v153 v154 v155 v156 v157 v158 v159 v160 v161 v162 v163 v164 v165 v166 v167 v168 v169 v170 v171 v172 v173 v174 v175 v176 v177 v178 v179 v180 v181 v182 v183 v184 v185 v186 v187 v188 v189 v190 v191 v192 v193 v194 v195 v196 v197 v198 v199 v200 v201 v202 v203 v204 v205 v206 v207 v208 v209 v210 v211 v212 v213 v214 v215 v216 v217 v218 v219 v220 v221 v222 v223 v224 v225 v226 v227 v228 v229 v230 v231 v232 v233 v234 v235 v236 v237 v238 v239 : Value) (w' : World) (R' M' : Tb), RunS w0 w' g mb cb #[.int .i64 ck, .int .i64 cn, .int .i64 ca, .int .i64 pg, .int .i64 sl, .string bf] R' M' (q + 1) → Q .normal ⟨#[u0, u1, u2, .pointer (some ⟨g, 0, none⟩), .pointer (some ⟨mb, 0, none⟩), u5, .pointer (some ⟨cb, 0, none⟩), .int .i64 (n : Int), xv, v9, v10, v11, v12, v13, v14, v15, u16, u17, u18, u19, u20, u21, u22, u23, u24, u25, u26, u27, u28, u29, u30, u31, u32, u33, u34, u35, u36, u37, u38, u39, u40, u41, .int .i64 0, v43, v44, v45, v46, v47, v48, v49, v50, v51, v52, v53, v54, v55, v56, v57, v58, v59, v60, v61, v62, v63, v64, v65, v66, v67, v68, v69, v70, v71, v72, v73, v74, v75, v76, v77, v78, v79, v80, v81, v82, v83, v84, v85, v86, v87, v88, v89, v90, v91, v92, v93, v94, v95, v96, v97, v98, v99, v100, v101, v102, v103, v104, v105, v106, v107, v108, v109, v110, v111, v112, v113, v114, v115, v116, v117, v118, v119, v120, v121, v122, v123, v124, v125, v126, v127, v128, v129, v130, v131, v132, v133, v134, v135, v136, v137, v138, v139, v140, v141, v142, v143, v144, v145, v146, v147, v148, v149, v150, v151, v152, v153, v154, v155, v156, v157, v158, v159, v160, v161, v162, v163, v164, v165, v166, v167, v168, v169, v170, v171, v172, v173, v174, v175, v176, v177, v178, v179, v180, v181, v182, v183, v184, v185, v186, v187, v188, v189, v190, v191, v192, v193, v194, v195, v196, v197, v198, v199, v200, v201, v202, v203, v204, v205, v206, v207, v208, v209, v210, v211, v212, v213, v214, v215, v216, v217, v218, v219, v220, v221, v222, v223, v224, v225, v226, v227, v228, v229, v230, v231, v232, v233, v234, v235, v236, v237, v238, v239, u240, u241, u242, u243], []⟩ w') :
    Code.wp Try.prog (subC (Try.f3.body.getD .skip) [1,1,1,1,1,0,1,0,0,1,1,0,0,1,1,1,1,0,1]) Q ⟨#[u0, u1, u2, .pointer (some ⟨g, 0, none⟩), .pointer (some ⟨mb, 0, none⟩), u5, .pointer (some ⟨cb, 0, none⟩), .int .i64 (n : Int), xv, u9, u10, u11, u12, u13, u14, u15, u16, u17, u18, u19, u20, u21, u22, u23, u24, u25, u26, u27, u28, u29, u30, u31, u32, u33, u34, u35, u36, u37, u38, u39, u40, u41, .int .i64 0, u43, u44, u45, u46, u47, u48, u49, u50, u51, u52, u53, u54, u55, u56, u57, u58, u59, u60, u61, u62, u63, u64, u65, u66, u67, u68, u69, u70, u71, u72, u73, u74, u75, u76, u77, u78, u79, u80, u81, u82, u83, u84, u85, u86, u87, u88, u89, u90, u91, u92, u93, u94, u95, u96, u97, u98, u99, u100, u101, u102, u103, u104, u105, u106, u107, u108, u109, u110, u111, u112, u113, u114, u115, u116, u117, u118, u119, u120, u121, u122, u123, u124, u125, u126, u127, u128, u129, u130, u131, u132, u133, u134, u135, u136, u137, u138, u139, u140, u141, u142, u143, u144, u145, u146, u147, u148, u149, u150, u151, u152, u153, u154, u155, u156, u157, u158, u159, u160, u161, u162, u163, u164, u165, u166, u167, u168, u169, u170, u171, u172, u173, u174, u175, u176, u177, u178, u179, u180, u181, u182, u183, u184, u185, u186, u187, u188, u189, u190, u191, u192, u193, u194, u195, u196, u197, u198, u199, u200, u201, u202, u203, u204, u205, u206, u207, u208, u209, u210, u211, u212, u213, u214, u215, u216, u217, u218, u219, u220, u221, u222, u223, u224, u225, u226, u227, u228, u229, u230, u231, u232, u233, u234, u235, u236, u237, u238, u239, u240, u241, u242, u243], []⟩ w := by
  conv => arg 2; whnf
  have HK := hide hK
  clear hK
  have HS := hide h.ow
  have H := hide h
  have HLE := hide h.rel.least
  clear h hq hn
  go_wp2
  go_loopw [9, 10] (fun u i wr2 => ∃ d m : Nat, d ≤ 3 ∧ m + d = 3 ∧ i = .int .i64 m ∧ u = .int .i64 (wd M d : Nat) ∧ Hid (w = wr2)) (fun _ i _ => (intOf i).toNat)
  case atStart => exact ⟨0, 3, by omega, by omega, rfl, rfl, hide rfl⟩
  case round =>
    obtain ⟨d, m, hd, hmd, rfl, rfl, hww⟩ := hrel
    obtain rfl := hww.out
    clear hww
    by_cases hm : 0 < m
    · have m1 : (0 : Int) < (m : Int) := by omega
      have m2 : (0 : Int) ≤ (m : Int) := by omega
      have m4 : (m : Int) < 4 := by omega
      have c0 := (HS.out.tblk (i := 1) rfl).cell m _ (cellsT_at M (by omega))
      have HMD := hide hmd
      obtain ⟨m', hm'⟩ : ∃ m', m = m' + 1 := ⟨m - 1, by omega⟩
      have HM' := hide hm'
      have em : (m : Int) - 1 = (m' : Int) := by omega
      clear hm hmd hd hm'
      cases hT : M m with
      | none =>
        rw [hT] at c0
        replace c0 : w.cell? ⟨mb, m, none⟩ = some (.pointer none) := c0
        have HE := hide (wd_none (T := M) HMD.out (by rw [hT]; rfl))
        clear hT
        have hnn : (none : Option Addr).isNone = true := rfl
        go_wp2
        go_roundw
        case rel => exact ⟨d + 1, m', by have := HMD.out; have := HM'.out; omega, by have := HMD.out; have := HM'.out; omega, rfl, by rw [HE.out], (by first | exact hide rfl | exact trivial)⟩
        case measure => simp [intOf]; have := HM'.out; omega
      | some zt =>
        obtain ⟨z, t⟩ := zt
        rw [hT] at c0
        replace c0 : w.cell? ⟨mb, m, none⟩ = some (.pointer (some ⟨z, 0, none⟩)) := c0
        have HE := hide (wd_some (T := M) HMD.out (by rw [hT]; rfl))
        have hnn : (some (⟨z, 0, none⟩ : Addr)).isNone = false := rfl
        clear hT
        go_wp2
        go_roundw
        case rel => exact ⟨d + 1, m', by have := HMD.out; have := HM'.out; omega, by have := HMD.out; have := HM'.out; omega, rfl, by rw [HE.out], (by first | exact hide rfl | exact trivial)⟩
        case measure => simp [intOf]; have := HM'.out; omega
    · obtain rfl : m = 0 := by omega
      obtain rfl : d = 3 := by omega
      clear hm hmd hd
      rw [wd_least, ← HLE.out]
      by_cases hA : leastT R = 0
      · have HK0 := hide (ow_begin_full HS.out (i := 0) rfl hA)
        rw [hA]
        clear hA
        go_wp2_with (go_at_call 10; (with_reducible refine HK0.out.mono ?_); rintro e w2 ⟨rfl, hs⟩; clear HK0; have HE := hide hs; clear hs)
        exact HK.out _ _ _ _ _ _ _ _ _ _ _ _ _ _ _ _ _ _ _ _ _ _ _ _ _ _ _ _ _ _ _ _ _ _ _ _ _ _ _ _ _ _ _ _ _ _ _ _ _ _ _ _ _ _ _ _ _ _ _ _ _ _ _ _ _ _ _ _ _ _ _ _ _ _ _ _ _ _ _ _ _ _ _ _ _ _ _ _ _ _ _ _ _ _ _ _ _ _ _ _ _ _ _ _ _ _ _ _ _ _ _ _ _ _ _ _ _ _ _ _ _ _ _ _ _ _ _ _ _ _ _ _ _ _ _ _ _ _ _ _ _ _ _ _ _ _ _ _ _ _ _ _ _ _ _ _ _ _ _ _ _ _ _ _ _ _ _ _ _ _ _ _ _ _ _ _ _ _ _ _ _ _ _ _ _ _ _ _ _ _ _ _ _ _ _ _ _ _ _ _ _ _ _ _ _ _ _ (H.out.next HE.out)
      · obtain ⟨k, hk⟩ : ∃ k, leastT R = k := ⟨_, rfl⟩
        have hk1 : 0 < k := by omega
        have hk3 : k < 4 := by have := leastT_le R; omega
        have HK1 := hide hk1
        have HK3 := hide hk3
        have kk0 : (0 : Int) < (k : Int) := by omega
        have kk1 : (0 : Int) ≤ (k : Int) := by omega
        have kk4 : (k : Int) < 4 := by omega
        have HK0 := hide (ow_begin_to HS.out (i := 0) rfl hk (by omega))
        rw [hk]
        clear hA hk hk1 hk3
        go_wp2_with (go_at_call 10; (with_reducible refine HK0.out.mono ?_); rintro e w2 ⟨rfl, x, hs⟩; clear HK0; have hb2 : Below w2.heap.size w2 (w2.alloc (.cells #[.slice none 0 0, .slice none 0 0, .int .i64 0] 38)) := (Below.refl _ _).alloc (Nat.le_refl _) _; have c0 := ((hs.tblk (i := 1) rfl).below hb2).cell k _ (cellsT_at M HK3.out); have cf := ((hs.tblk (i := 1) rfl).below hb2).frozen k; have HE := hide (hs.stored (i := 1) rfl HK1.out HK3.out hb2 (o := some (w2.heap.size, tx0)) (new_txn w2)); clear hs hb2)
        exact HK.out _ _ _ _ _ _ _ _ _ _ _ _ _ _ _ _ _ _ _ _ _ _ _ _ _ _ _ _ _ _ _ _ _ _ _ _ _ _ _ _ _ _ _ _ _ _ _ _ _ _ _ _ _ _ _ _ _ _ _ _ _ _ _ _ _ _ _ _ _ _ _ _ _ _ _ _ _ _ _ _ _ _ _ _ _ _ _ _ _ _ _ _ _ _ _ _ _ _ _ _ _ _ _ _ _ _ _ _ _ _ _ _ _ _ _ _ _ _ _ _ _ _ _ _ _ _ _ _ _ _ _ _ _ _ _ _ _ _ _ _ _ _ _ _ _ _ _ _ _ _ _ _ _ _ _ _ _ _ _ _ _ _ _ _ _ _ _ _ _ _ _ _ _ _ _ _ _ _ _ _ _ _ _ _ _ _ _ _ _ _ _ _ _ _ _ _ _ _ _ _ _ _ _ _ _ _ _ (H.out.both (by show (0 : Nat) ≤ _ ∧ (0 : Nat) ≤ _; omega) HE.out)
end Go.Proofs.Ytkegfedbffhnfaa
