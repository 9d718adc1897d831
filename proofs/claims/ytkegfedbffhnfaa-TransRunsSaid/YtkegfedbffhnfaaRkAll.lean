/-
  TransRuns' walk: all kinds.
-/
import Derived.Test.YtkegfedbffhnfaaRk0
import Derived.Test.YtkegfedbffhnfaaRk1
import Derived.Test.YtkegfedbffhnfaaRk2
import Derived.Test.YtkegfedbffhnfaaRk3
import Derived.Test.YtkegfedbffhnfaaRk4
import Derived.Test.YtkegfedbffhnfaaRk5
namespace Go.Proofs.Ytkegfedbffhnfaa
open Go.RowKit
set_option maxRecDepth 100000
set_option linter.unusedSimpArgs false
set_option linter.unusedVariables false

set_option maxHeartbeats 4000000 in
theorem rk_all {w0 w : World} {g mb cb n q k : Nat} {R M : Tb} {ck cn ca pg sl : Int} {bf : ByteArray} {u0 u1 u2 u5 u9 u10 u11 u12 u13 u14 u15 u16 u17 u18 u19 u20 u21 u22 u23 u24 u25 u26 u27 u28 u29 u30 u31 u32 u33 u34 u35 u36 u37 u38 u39 u40 u41 u43 u44 u45 u46 u47 u48 u49 u50 u51 u52 u53 u54 u55 u56 u57 u58 u59 u60 u61 u62 u63 u64 u65 u66 u67 u68 u69 u70 u71 u72 u73 u74 u75 u76 u77 u78 u79 u80 u81 u82 u83 u84 u85 u86 u87 u88 u89 u90 u91 u92 u93 u94 u95 u96 u97 u98 u99 u100 u101 u102 u103 u104 u105 u106 u107 u108 u109 u110 u111 u112 u113 u114 u115 u116 u117 u118 u119 u120 u121 u122 u123 u124 u125 u126 u127 u128 u129 u130 u131 u132 u133 u134 u135 u136 u137 u138 u139 u140 u141 u142 u143 u144 u145 u146 u147 u148 u149 u150 u151 u152 u153 u154 u155 u156 u157 u158 u159 u160 u161 u162 u163 u164 u165 u166 u167 u168 u169 u170 u171 u172 u173 u174 u175 u176 u177 u178 u179 u180 u181 u182 u183 u184 u185 u186 u187 u188 u189 u190 u191 u192 u193 u194 u195 u196 u197 u198 u199 u200 u201 u202 u203 u204 u205 u206 u207 u208 u209 u210 u211 u212 u213 u214 u215 u216 u217 u218 u219 u220 u221 u222 u223 u224 u225 u226 u227 u228 u229 u230 u231 u232 u233 u234 u235 u236 u237 u238 u239 u240 u241 u242 u243 : Value} (h : RunS w0 w g mb cb #[.int .i64 ck, .int .i64 cn, .int .i64 ca, .int .i64 pg, .int .i64 sl, .string bf] R M q) (hq : q ≤ 300) (hn : n < 4) (hk : k < 6) {Q : Exit → Act → World → Prop}
    (hK : ∀ (v9 v10 v11 v12 v13 v14 v15 v43 v44 v45 v46 v47 v48 v49 v50 v51 v52 v53 v54 v55 v56 v57 v58 v59 v60 v61 v62 v63 v64 v65 v66 v67 v68 v69 v70 v71 v72 v73 v74 v75 v76 v77 v78 v79 v80 v81 v82 v83 v84 v85 v86 v87 v88 v89 v90 v91 v92 v93 v94 v95 v96 v97 v98 v99 v100 v101 v102 v103 v104 v105 v106 v107 v108 v109 v110 v111 v112 v113 v114 v115 v116 v117 v118 v119 v120 v121 v122 v123 v124 v125 v126 v127 v128 v129 v130 v131 v132 v133 v134 v135 v136 v137 v138 v139 v140 v141 v142 v143 v144 v145 v146 v147 v148 v149 v150 v151 v152 v153 v154 v155 v156 v157 v158 v159 v160 v161 v162 v163 v164 v165 v166 v167 v168 v169 v170 v171 v172 v173 v174 v175 v176 v177 v178 v179 v180 v181 v182 v183 v184 v185 v186 v187 v188 v189 v190 v191 v192 v193 v194 v195 v196 v197 v198 v199 v200 v201 v202 v203 v204 v205 v206 v207 v208 v209 v210 v211 v212 v213 v214 v215 v216 v217 v218 v219 v220 v221 v222 v223 v224 v225 v226 v227 v228 v229 v230 v231 v232 v233 v234 v235 v236 v237 v238 v239 : Value) (w' : World) (R' M' : Tb), RunS w0 w' g mb cb #[.int .i64 ck, .int .i64 cn, .int .i64 ca, .int .i64 pg, .int .i64 sl, .string bf] R' M' (q + 1) → Q .normal ⟨#[u0, u1, u2, .pointer (some ⟨g, 0, none⟩), .pointer (some ⟨mb, 0, none⟩), u5, .pointer (some ⟨cb, 0, none⟩), .int .i64 (n : Int), (pv (M n)), v9, v10, v11, v12, v13, v14, v15, u16, u17, u18, u19, u20, u21, u22, u23, u24, u25, u26, u27, u28, u29, u30, u31, u32, u33, u34, u35, u36, u37, u38, u39, u40, u41, .int .i64 (k : Int), v43, v44, v45, v46, v47, v48, v49, v50, v51, v52, v53, v54, v55, v56, v57, v58, v59, v60, v61, v62, v63, v64, v65, v66, v67, v68, v69, v70, v71, v72, v73, v74, v75, v76, v77, v78, v79, v80, v81, v82, v83, v84, v85, v86, v87, v88, v89, v90, v91, v92, v93, v94, v95, v96, v97, v98, v99, v100, v101, v102, v103, v104, v105, v106, v107, v108, v109, v110, v111, v112, v113, v114, v115, v116, v117, v118, v119, v120, v121, v122, v123, v124, v125, v126, v127, v128, v129, v130, v131, v132, v133, v134, v135, v136, v137, v138, v139, v140, v141, v142, v143, v144, v145, v146, v147, v148, v149, v150, v151, v152, v153, v154, v155, v156, v157, v158, v159, v160, v161, v162, v163, v164, v165, v166, v167, v168, v169, v170, v171, v172, v173, v174, v175, v176, v177, v178, v179, v180, v181, v182, v183, v184, v185, v186, v187, v188, v189, v190, v191, v192, v193, v194, v195, v196, v197, v198, v199, v200, v201, v202, v203, v204, v205, v206, v207, v208, v209, v210, v211, v212, v213, v214, v215, v216, v217, v218, v219, v220, v221, v222, v223, v224, v225, v226, v227, v228, v229, v230, v231, v232, v233, v234, v235, v236, v237, v238, v239, u240, u241, u242, u243], []⟩ w') :
    Code.wp Try.prog (subC (Try.f3.body.getD .skip) [1,1,1,1,1,0,1,0,0,1,1,0,0,1,1,1,1,0,1]) Q ⟨#[u0, u1, u2, .pointer (some ⟨g, 0, none⟩), .pointer (some ⟨mb, 0, none⟩), u5, .pointer (some ⟨cb, 0, none⟩), .int .i64 (n : Int), (pv (M n)), u9, u10, u11, u12, u13, u14, u15, u16, u17, u18, u19, u20, u21, u22, u23, u24, u25, u26, u27, u28, u29, u30, u31, u32, u33, u34, u35, u36, u37, u38, u39, u40, u41, .int .i64 (k : Int), u43, u44, u45, u46, u47, u48, u49, u50, u51, u52, u53, u54, u55, u56, u57, u58, u59, u60, u61, u62, u63, u64, u65, u66, u67, u68, u69, u70, u71, u72, u73, u74, u75, u76, u77, u78, u79, u80, u81, u82, u83, u84, u85, u86, u87, u88, u89, u90, u91, u92, u93, u94, u95, u96, u97, u98, u99, u100, u101, u102, u103, u104, u105, u106, u107, u108, u109, u110, u111, u112, u113, u114, u115, u116, u117, u118, u119, u120, u121, u122, u123, u124, u125, u126, u127, u128, u129, u130, u131, u132, u133, u134, u135, u136, u137, u138, u139, u140, u141, u142, u143, u144, u145, u146, u147, u148, u149, u150, u151, u152, u153, u154, u155, u156, u157, u158, u159, u160, u161, u162, u163, u164, u165, u166, u167, u168, u169, u170, u171, u172, u173, u174, u175, u176, u177, u178, u179, u180, u181, u182, u183, u184, u185, u186, u187, u188, u189, u190, u191, u192, u193, u194, u195, u196, u197, u198, u199, u200, u201, u202, u203, u204, u205, u206, u207, u208, u209, u210, u211, u212, u213, u214, u215, u216, u217, u218, u219, u220, u221, u222, u223, u224, u225, u226, u227, u228, u229, u230, u231, u232, u233, u234, u235, u236, u237, u238, u239, u240, u241, u242, u243], []⟩ w := by
  rcases (by omega : k = 0 ∨ k = 1 ∨ k = 2 ∨ k = 3 ∨ k = 4 ∨ k = 5) with rfl | rfl | rfl | rfl | rfl | rfl
  · exact rk0 h hq hn hK
  · exact rk1 h hq hn hK
  · cases hR : R n with
    | none =>
      rw [h.rel.none_ hR] at hK ⊢
      exact rk2n h hq hn hR hK
    | some xt =>
      obtain ⟨x, t⟩ := xt
      obtain ⟨z, hM⟩ := h.rel.some_ hR
      rw [hM] at hK ⊢
      exact rk2s h hq hn hR hM hK
  · cases hR : R n with
    | none =>
      rw [h.rel.none_ hR] at hK ⊢
      exact rk3n h hq hn hR hK
    | some xt =>
      obtain ⟨x, t⟩ := xt
      obtain ⟨z, hM⟩ := h.rel.some_ hR
      rw [hM] at hK ⊢
      rcases Nat.eq_zero_or_pos t.l.length with e | e
      · exact rk3e h hq hn hR hM (List.eq_nil_of_length_eq_zero e) hK
      · obtain ⟨m, hm⟩ : ∃ m, t.l.length = m + 1 := ⟨t.l.length - 1, by omega⟩
        obtain ⟨⟨pa, sa, ba⟩, hc⟩ : ∃ c, t.l[m]? = some c := ⟨_, List.getElem?_eq_getElem (by omega)⟩
        exact rk3s h hq hn hR hM hm hc hK
  · cases hR : R n with
    | none =>
      rw [h.rel.none_ hR] at hK ⊢
      exact rk4n h hq hn hR hK
    | some xt =>
      obtain ⟨x, t⟩ := xt
      obtain ⟨z, hM⟩ := h.rel.some_ hR
      rw [hM] at hK ⊢
      by_cases e : t.sv.length < 4
      · exact rk4s h hq hn hR hM e hK
      · exact rk4f h hq hn hR hM (by omega) hK
  · cases hR : R n with
    | none =>
      rw [h.rel.none_ hR] at hK ⊢
      exact rk5n h hq hn hR hK
    | some xt =>
      obtain ⟨x, t⟩ := xt
      obtain ⟨z, hM⟩ := h.rel.some_ hR
      rw [hM] at hK ⊢
      by_cases e : ca < 1 ∨ (t.sv.length : Int) < ca
      · exact rk5b h hq hn hR hM e hK
      · obtain ⟨m, i, hm, rfl⟩ : ∃ m i : Nat, m = i + 1 ∧ ca = (m : Int) := ⟨ca.toNat, ca.toNat - 1, by omega, by omega⟩
        obtain ⟨u, hu⟩ : ∃ u, t.sv[i]? = some u := ⟨_, List.getElem?_eq_getElem (by omega)⟩
        exact rk5s (ca := 0) h hq hn hR hM hm (by omega) hu hK
end Go.Proofs.Ytkegfedbffhnfaa
