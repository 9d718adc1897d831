/-
  TransRuns' walk: Pop.
-/
import Derived.Test.YtkegfedbffhnfaaSub11
namespace Go.Proofs.Ytkegfedbffhnfaa
open Go.RowKit
set_option maxRecDepth 100000
set_option linter.unusedSimpArgs false
set_option linter.unusedVariables false

set_option maxHeartbeats 16000000 in
theorem rk3n {w0 w : World} {g mb cb n q : Nat} {R M : Tb} {ck cn ca pg sl : Int} {bf : ByteArray} {u0 u1 u2 u5 u9 u10 u11 u12 u13 u14 u15 u16 u17 u18 u19 u20 u21 u22 u23 u24 u25 u26 u27 u28 u29 u30 u31 u32 u33 u34 u35 u36 u37 u38 u39 u40 u41 u43 u44 u45 u46 u47 u48 u49 u50 u51 u52 u53 u54 u55 u56 u57 u58 u59 u60 u61 u62 u63 u64 u65 u66 u67 u68 u69 u70 u71 u72 u73 u74 u75 u76 u77 u78 u79 u80 u81 u82 u83 u84 u85 u86 u87 u88 u89 u90 u91 u92 u93 u94 u95 u96 u97 u98 u99 u100 u101 u102 u103 u104 u105 u106 u107 u108 u109 u110 u111 u112 u113 u114 u115 u116 u117 u118 u119 u120 u121 u122 u123 u124 u125 u126 u127 u128 u129 u130 u131 u132 u133 u134 u135 u136 u137 u138 u139 u140 u141 u142 u143 u144 u145 u146 u147 u148 u149 u150 u151 u152 u153 u154 u155 u156 u157 u158 u159 u160 u161 u162 u163 u164 u165 u166 u167 u168 u169 u170 u171 u172 u173 u174 u175 u176 u177 u178 u179 u180 u181 u182 u183 u184 u185 u186 u187 u188 u189 u190 u191 u192 u193 u194 u195 u196 u197 u198 u199 u200 u201 u202 u203 u204 u205 u206 u207 u208 u209 u210 u211 u212 u213 u214 u215 u216 u217 u218 u219 u220 u221 u222 u223 u224 u225 u226 u227 u228 u229 u230 u231 u232 u233 u234 u235 u236 u237 u238 u239 u240 u241 u242 u243 : Value} (h : RunS w0 w g mb cb #[.int .i64 ck, .int .i64 cn, .int .i64 ca, .int .i64 pg, .int .i64 sl, .string bf] R M q) (hq : q ≤ 300) (hn : n < 4) (hRn : R n = none) {Q : Exit → Act → World → Prop}
    (hK : ∀ (v9 v10 v11 v12 v13 v14 v15 v43 v44 v45 v46 v47 v48 v49 v50 v51 v52 v53 v54 v55 v56 v57 v58 v59 v60 v61 v62 v63 v64 v65 v66 v67 v68 v69 v70 v71 v72 v73 v74 v75 v76 v77 v78 v79 v80 v81 v82 v83 v84 v85 v86 v87 v88 v89 v90 v91 v92 v93 v94 v95 v96 v97 v98 v99 v100 v101 v102 v103 v104 v105 v106 v107 v108 v109 v110 v111 v112 v113 v114 v115 v116 v117 v118 v119 v120 v121 v122 v123 v124 v125 v126 v127 v128 v129 v130 v131 v132 v133 v134 v135 v136 v137 v138 v139 v140 v141 v142 v143 v144 v145 v146 v147 v148 v149 v150 v151 v152 v153 v154 v155 v156 v157 v158 v159 v160 v161 v162 v163 v164 v165 v166 v167 v168 v169 v170 v171 v172 v173 v174 v175 v176 v177 v178 v179 v180 v181 v182 v183 v184 v185 v186 v187 v188 v189 v190 v191 v192 v193 v194 v195 v196 v197 v198 v199 v200 v201 v202 v203 v204 v205 v206 v207 v208 v209 v210 v211 v212 v213 v214 v215 v216 v217 v218 v219 v220 v221 v222 v223 v224 v225 v226 v227 v228 v229 v230 v231 v232 v233 v234 v235 v236 v237 v238 v239 : Value) (w' : World) (R' M' : Tb), RunS w0 w' g mb cb #[.int .i64 ck, .int .i64 cn, .int .i64 ca, .int .i64 pg, .int .i64 sl, .string bf] R' M' (q + 1) → Q .normal ⟨#[u0, u1, u2, .pointer (some ⟨g, 0, none⟩), .pointer (some ⟨mb, 0, none⟩), u5, .pointer (some ⟨cb, 0, none⟩), .int .i64 (n : Int), .pointer none, v9, v10, v11, v12, v13, v14, v15, u16, u17, u18, u19, u20, u21, u22, u23, u24, u25, u26, u27, u28, u29, u30, u31, u32, u33, u34, u35, u36, u37, u38, u39, u40, u41, .int .i64 3, v43, v44, v45, v46, v47, v48, v49, v50, v51, v52, v53, v54, v55, v56, v57, v58, v59, v60, v61, v62, v63, v64, v65, v66, v67, v68, v69, v70, v71, v72, v73, v74, v75, v76, v77, v78, v79, v80, v81, v82, v83, v84, v85, v86, v87, v88, v89, v90, v91, v92, v93, v94, v95, v96, v97, v98, v99, v100, v101, v102, v103, v104, v105, v106, v107, v108, v109, v110, v111, v112, v113, v114, v115, v116, v117, v118, v119, v120, v121, v122, v123, v124, v125, v126, v127, v128, v129, v130, v131, v132, v133, v134, v135, v136, v137, v138, v139, v140, v141, v142, v143, v144, v145, v146, v147, v148, v149, v150, v151, v152, v153, v154, v155, v156, v157, v158, v159, v160, v161, v162, v163, v164, v165, v166, v167, v168, v169, v170, v171, v172, v173, v174, v175, v176, v177, v178, v179, v180, v181, v182, v183, v184, v185, v186, v187, v188, v189, v190, v191, v192, v193, v194, v195, v196, v197, v198, v199, v200, v201, v202, v203, v204, v205, v206, v207, v208, v209, v210, v211, v212, v213, v214, v215, v216, v217, v218, v219, v220, v221, v222, v223, v224, v225, v226, v227, v228, v229, v230, v231, v232, v233, v234, v235, v236, v237, v238, v239, u240, u241, u242, u243], []⟩ w') :
    Code.wp Try.prog (subC (Try.f3.body.getD .skip) [1,1,1,1,1,0,1,0,0,1,1,0,0,1,1,1,1,0,1]) Q ⟨#[u0, u1, u2, .pointer (some ⟨g, 0, none⟩), .pointer (some ⟨mb, 0, none⟩), u5, .pointer (some ⟨cb, 0, none⟩), .int .i64 (n : Int), .pointer none, u9, u10, u11, u12, u13, u14, u15, u16, u17, u18, u19, u20, u21, u22, u23, u24, u25, u26, u27, u28, u29, u30, u31, u32, u33, u34, u35, u36, u37, u38, u39, u40, u41, .int .i64 3, u43, u44, u45, u46, u47, u48, u49, u50, u51, u52, u53, u54, u55, u56, u57, u58, u59, u60, u61, u62, u63, u64, u65, u66, u67, u68, u69, u70, u71, u72, u73, u74, u75, u76, u77, u78, u79, u80, u81, u82, u83, u84, u85, u86, u87, u88, u89, u90, u91, u92, u93, u94, u95, u96, u97, u98, u99, u100, u101, u102, u103, u104, u105, u106, u107, u108, u109, u110, u111, u112, u113, u114, u115, u116, u117, u118, u119, u120, u121, u122, u123, u124, u125, u126, u127, u128, u129, u130, u131, u132, u133, u134, u135, u136, u137, u138, u139, u140, u141, u142, u143, u144, u145, u146, u147, u148, u149, u150, u151, u152, u153, u154, u155, u156, u157, u158, u159, u160, u161, u162, u163, u164, u165, u166, u167, u168, u169, u170, u171, u172, u173, u174, u175, u176, u177, u178, u179, u180, u181, u182, u183, u184, u185, u186, u187, u188, u189, u190, u191, u192, u193, u194, u195, u196, u197, u198, u199, u200, u201, u202, u203, u204, u205, u206, u207, u208, u209, u210, u211, u212, u213, u214, u215, u216, u217, u218, u219, u220, u221, u222, u223, u224, u225, u226, u227, u228, u229, u230, u231, u232, u233, u234, u235, u236, u237, u238, u239, u240, u241, u242, u243], []⟩ w := by
  conv => arg 2; whnf
  have HK := hide hK
  clear hK
  have HS := hide h.ow
  have H := hide h
  have HQ : Hid (q ≤ 300) := hide hq
  have HG := hide (ow_getn HS.out (i := 0) rfl (j := n) (v := .pointer none) (by rw [hRn]; rfl))
  have HPN : Hid (Calls Try.prog 14 #[.pointer none] w fun e W' => e = .returned (.tuple #[.agg #[.int .i64 0, .int .i64 0, .string ⟨#[]⟩], .bool false]) ∧ Ow w0 (fun _ => False) W' [Res.tt g (R), Res.tab layM 29 mb (M), Res.blk cb 33 #[.int .i64 ck, .int .i64 cn, .int .i64 ca, .int .i64 pg, .int .i64 sl, .string bf]]) := hide ((pop_nil w).mono (fun e w' ⟨h1, h2⟩ => ⟨h1, HS.out.below h2⟩))
  clear h hq hn hRn
  go_wp2_with (first
    | (go_at_call 12; (with_reducible refine HG.out.mono ?_); rintro e w3 ⟨rfl, rfl⟩)
    | (go_at_call 14; (with_reducible refine HPN.out.mono ?_); rintro e w4 ⟨rfl, hs⟩; have SB := hide (hs.box 31 #[.int .i64 0, .int .i64 0, .string ⟨#[]⟩]); obtain ⟨b0, b1, b2, _⟩ := (SB.out.blk (i := 3) rfl).three; clear hs))
  go_quiet (fail)
  go_wp2
  exact HK.out _ _ _ _ _ _ _ _ _ _ _ _ _ _ _ _ _ _ _ _ _ _ _ _ _ _ _ _ _ _ _ _ _ _ _ _ _ _ _ _ _ _ _ _ _ _ _ _ _ _ _ _ _ _ _ _ _ _ _ _ _ _ _ _ _ _ _ _ _ _ _ _ _ _ _ _ _ _ _ _ _ _ _ _ _ _ _ _ _ _ _ _ _ _ _ _ _ _ _ _ _ _ _ _ _ _ _ _ _ _ _ _ _ _ _ _ _ _ _ _ _ _ _ _ _ _ _ _ _ _ _ _ _ _ _ _ _ _ _ _ _ _ _ _ _ _ _ _ _ _ _ _ _ _ _ _ _ _ _ _ _ _ _ _ _ _ _ _ _ _ _ _ _ _ _ _ _ _ _ _ _ _ _ _ _ _ _ _ _ _ _ _ _ _ _ _ _ _ _ _ _ _ _ _ _ _ _ (H.out.next ((SB.out.below (Below.drewsN _ _)).take 3))
set_option maxHeartbeats 16000000 in
theorem rk3e {w0 w : World} {g mb cb n q : Nat} {R M : Tb} {ck cn ca pg sl : Int} {bf : ByteArray} {x z : Nat} {t : Tx} {u0 u1 u2 u5 u9 u10 u11 u12 u13 u14 u15 u16 u17 u18 u19 u20 u21 u22 u23 u24 u25 u26 u27 u28 u29 u30 u31 u32 u33 u34 u35 u36 u37 u38 u39 u40 u41 u43 u44 u45 u46 u47 u48 u49 u50 u51 u52 u53 u54 u55 u56 u57 u58 u59 u60 u61 u62 u63 u64 u65 u66 u67 u68 u69 u70 u71 u72 u73 u74 u75 u76 u77 u78 u79 u80 u81 u82 u83 u84 u85 u86 u87 u88 u89 u90 u91 u92 u93 u94 u95 u96 u97 u98 u99 u100 u101 u102 u103 u104 u105 u106 u107 u108 u109 u110 u111 u112 u113 u114 u115 u116 u117 u118 u119 u120 u121 u122 u123 u124 u125 u126 u127 u128 u129 u130 u131 u132 u133 u134 u135 u136 u137 u138 u139 u140 u141 u142 u143 u144 u145 u146 u147 u148 u149 u150 u151 u152 u153 u154 u155 u156 u157 u158 u159 u160 u161 u162 u163 u164 u165 u166 u167 u168 u169 u170 u171 u172 u173 u174 u175 u176 u177 u178 u179 u180 u181 u182 u183 u184 u185 u186 u187 u188 u189 u190 u191 u192 u193 u194 u195 u196 u197 u198 u199 u200 u201 u202 u203 u204 u205 u206 u207 u208 u209 u210 u211 u212 u213 u214 u215 u216 u217 u218 u219 u220 u221 u222 u223 u224 u225 u226 u227 u228 u229 u230 u231 u232 u233 u234 u235 u236 u237 u238 u239 u240 u241 u242 u243 : Value} (h : RunS w0 w g mb cb #[.int .i64 ck, .int .i64 cn, .int .i64 ca, .int .i64 pg, .int .i64 sl, .string bf] R M q) (hq : q ≤ 300) (hn : n < 4) (hRn : R n = some (x, t)) (hMn : M n = some (z, t)) (hl0 : t.l = []) {Q : Exit → Act → World → Prop}
    (hK : ∀ (v9 v10 v11 v12 v13 v14 v15 v43 v44 v45 v46 v47 v48 v49 v50 v51 v52 v53 v54 v55 v56 v57 v58 v59 v60 v61 v62 v63 v64 v65 v66 v67 v68 v69 v70 v71 v72 v73 v74 v75 v76 v77 v78 v79 v80 v81 v82 v83 v84 v85 v86 v87 v88 v89 v90 v91 v92 v93 v94 v95 v96 v97 v98 v99 v100 v101 v102 v103 v104 v105 v106 v107 v108 v109 v110 v111 v112 v113 v114 v115 v116 v117 v118 v119 v120 v121 v122 v123 v124 v125 v126 v127 v128 v129 v130 v131 v132 v133 v134 v135 v136 v137 v138 v139 v140 v141 v142 v143 v144 v145 v146 v147 v148 v149 v150 v151 v152 v153 v154 v155 v156 v157 v158 v159 v160 v161 v162 v163 v164 v165 v166 v167 v168 v169 v170 v171 v172 v173 v174 v175 v176 v177 v178 v179 v180 v181 v182 v183 v184 v185 v186 v187 v188 v189 v190 v191 v192 v193 v194 v195 v196 v197 v198 v199 v200 v201 v202 v203 v204 v205 v206 v207 v208 v209 v210 v211 v212 v213 v214 v215 v216 v217 v218 v219 v220 v221 v222 v223 v224 v225 v226 v227 v228 v229 v230 v231 v232 v233 v234 v235 v236 v237 v238 v239 : Value) (w' : World) (R' M' : Tb), RunS w0 w' g mb cb #[.int .i64 ck, .int .i64 cn, .int .i64 ca, .int .i64 pg, .int .i64 sl, .string bf] R' M' (q + 1) → Q .normal ⟨#[u0, u1, u2, .pointer (some ⟨g, 0, none⟩), .pointer (some ⟨mb, 0, none⟩), u5, .pointer (some ⟨cb, 0, none⟩), .int .i64 (n : Int), .pointer (some ⟨z, 0, none⟩), v9, v10, v11, v12, v13, v14, v15, u16, u17, u18, u19, u20, u21, u22, u23, u24, u25, u26, u27, u28, u29, u30, u31, u32, u33, u34, u35, u36, u37, u38, u39, u40, u41, .int .i64 3, v43, v44, v45, v46, v47, v48, v49, v50, v51, v52, v53, v54, v55, v56, v57, v58, v59, v60, v61, v62, v63, v64, v65, v66, v67, v68, v69, v70, v71, v72, v73, v74, v75, v76, v77, v78, v79, v80, v81, v82, v83, v84, v85, v86, v87, v88, v89, v90, v91, v92, v93, v94, v95, v96, v97, v98, v99, v100, v101, v102, v103, v104, v105, v106, v107, v108, v109, v110, v111, v112, v113, v114, v115, v116, v117, v118, v119, v120, v121, v122, v123, v124, v125, v126, v127, v128, v129, v130, v131, v132, v133, v134, v135, v136, v137, v138, v139, v140, v141, v142, v143, v144, v145, v146, v147, v148, v149, v150, v151, v152, v153, v154, v155, v156, v157, v158, v159, v160, v161, v162, v163, v164, v165, v166, v167, v168, v169, v170, v171, v172, v173, v174, v175, v176, v177, v178, v179, v180, v181, v182, v183, v184, v185, v186, v187, v188, v189, v190, v191, v192, v193, v194, v195, v196, v197, v198, v199, v200, v201, v202, v203, v204, v205, v206, v207, v208, v209, v210, v211, v212, v213, v214, v215, v216, v217, v218, v219, v220, v221, v222, v223, v224, v225, v226, v227, v228, v229, v230, v231, v232, v233, v234, v235, v236, v237, v238, v239, u240, u241, u242, u243], []⟩ w') :
    Code.wp Try.prog (subC (Try.f3.body.getD .skip) [1,1,1,1,1,0,1,0,0,1,1,0,0,1,1,1,1,0,1]) Q ⟨#[u0, u1, u2, .pointer (some ⟨g, 0, none⟩), .pointer (some ⟨mb, 0, none⟩), u5, .pointer (some ⟨cb, 0, none⟩), .int .i64 (n : Int), .pointer (some ⟨z, 0, none⟩), u9, u10, u11, u12, u13, u14, u15, u16, u17, u18, u19, u20, u21, u22, u23, u24, u25, u26, u27, u28, u29, u30, u31, u32, u33, u34, u35, u36, u37, u38, u39, u40, u41, .int .i64 3, u43, u44, u45, u46, u47, u48, u49, u50, u51, u52, u53, u54, u55, u56, u57, u58, u59, u60, u61, u62, u63, u64, u65, u66, u67, u68, u69, u70, u71, u72, u73, u74, u75, u76, u77, u78, u79, u80, u81, u82, u83, u84, u85, u86, u87, u88, u89, u90, u91, u92, u93, u94, u95, u96, u97, u98, u99, u100, u101, u102, u103, u104, u105, u106, u107, u108, u109, u110, u111, u112, u113, u114, u115, u116, u117, u118, u119, u120, u121, u122, u123, u124, u125, u126, u127, u128, u129, u130, u131, u132, u133, u134, u135, u136, u137, u138, u139, u140, u141, u142, u143, u144, u145, u146, u147, u148, u149, u150, u151, u152, u153, u154, u155, u156, u157, u158, u159, u160, u161, u162, u163, u164, u165, u166, u167, u168, u169, u170, u171, u172, u173, u174, u175, u176, u177, u178, u179, u180, u181, u182, u183, u184, u185, u186, u187, u188, u189, u190, u191, u192, u193, u194, u195, u196, u197, u198, u199, u200, u201, u202, u203, u204, u205, u206, u207, u208, u209, u210, u211, u212, u213, u214, u215, u216, u217, u218, u219, u220, u221, u222, u223, u224, u225, u226, u227, u228, u229, u230, u231, u232, u233, u234, u235, u236, u237, u238, u239, u240, u241, u242, u243], []⟩ w := by
  conv => arg 2; whnf
  have HK := hide hK
  clear hK
  have HS := hide h.ow
  have H := hide h
  have HQ : Hid (q ≤ 300) := hide hq
  have HG := hide (ow_getn HS.out (i := 0) rfl (j := n) (v := .pointer (some ⟨x, 0, none⟩)) (by rw [hRn]; rfl))
  have HPN := hide (ow_pop0 HS.out (i := 0) rfl hRn hl0)
  have HMN := hide hMn
  have HLO := hide hl0
  clear h hq hn hRn hMn hl0
  go_wp2_with (first
    | (go_at_call 12; (with_reducible refine HG.out.mono ?_); rintro e w3 ⟨rfl, rfl⟩)
    | (go_at_call 14; (with_reducible refine HPN.out.mono ?_); rintro e w4 ⟨rfl, hs⟩; have SB := hide (hs.box 31 #[.int .i64 0, .int .i64 0, .string ⟨#[]⟩]); obtain ⟨b0, b1, b2, _⟩ := (SB.out.blk (i := 3) rfl).three; obtain ⟨Az, Bz, htz, _⟩ := SB.out.txn (i := 1) rfl HMN.out; obtain ⟨Aa, ca2, ea⟩ := htz.l.form; rw [HLO.out] at ea; have ea : Az = .slice Aa 0 ca2 := ea; subst ea; have d0 := htz.cells.1; clear htz; clear hs))
  go_quiet (fail)
  go_wp2
  exact HK.out _ _ _ _ _ _ _ _ _ _ _ _ _ _ _ _ _ _ _ _ _ _ _ _ _ _ _ _ _ _ _ _ _ _ _ _ _ _ _ _ _ _ _ _ _ _ _ _ _ _ _ _ _ _ _ _ _ _ _ _ _ _ _ _ _ _ _ _ _ _ _ _ _ _ _ _ _ _ _ _ _ _ _ _ _ _ _ _ _ _ _ _ _ _ _ _ _ _ _ _ _ _ _ _ _ _ _ _ _ _ _ _ _ _ _ _ _ _ _ _ _ _ _ _ _ _ _ _ _ _ _ _ _ _ _ _ _ _ _ _ _ _ _ _ _ _ _ _ _ _ _ _ _ _ _ _ _ _ _ _ _ _ _ _ _ _ _ _ _ _ _ _ _ _ _ _ _ _ _ _ _ _ _ _ _ _ _ _ _ _ _ _ _ _ _ _ _ _ _ _ _ _ _ _ _ _ _ (H.out.next ((SB.out.below (Below.drewsN _ _)).take 3))
set_option maxHeartbeats 16000000 in
theorem rk3s {w0 w : World} {g mb cb n q : Nat} {R M : Tb} {ck cn ca pg sl : Int} {bf : ByteArray} {x z m : Nat} {t : Tx} {pa sa : Int} {ba : ByteArray} {u0 u1 u2 u5 u9 u10 u11 u12 u13 u14 u15 u16 u17 u18 u19 u20 u21 u22 u23 u24 u25 u26 u27 u28 u29 u30 u31 u32 u33 u34 u35 u36 u37 u38 u39 u40 u41 u43 u44 u45 u46 u47 u48 u49 u50 u51 u52 u53 u54 u55 u56 u57 u58 u59 u60 u61 u62 u63 u64 u65 u66 u67 u68 u69 u70 u71 u72 u73 u74 u75 u76 u77 u78 u79 u80 u81 u82 u83 u84 u85 u86 u87 u88 u89 u90 u91 u92 u93 u94 u95 u96 u97 u98 u99 u100 u101 u102 u103 u104 u105 u106 u107 u108 u109 u110 u111 u112 u113 u114 u115 u116 u117 u118 u119 u120 u121 u122 u123 u124 u125 u126 u127 u128 u129 u130 u131 u132 u133 u134 u135 u136 u137 u138 u139 u140 u141 u142 u143 u144 u145 u146 u147 u148 u149 u150 u151 u152 u153 u154 u155 u156 u157 u158 u159 u160 u161 u162 u163 u164 u165 u166 u167 u168 u169 u170 u171 u172 u173 u174 u175 u176 u177 u178 u179 u180 u181 u182 u183 u184 u185 u186 u187 u188 u189 u190 u191 u192 u193 u194 u195 u196 u197 u198 u199 u200 u201 u202 u203 u204 u205 u206 u207 u208 u209 u210 u211 u212 u213 u214 u215 u216 u217 u218 u219 u220 u221 u222 u223 u224 u225 u226 u227 u228 u229 u230 u231 u232 u233 u234 u235 u236 u237 u238 u239 u240 u241 u242 u243 : Value} (h : RunS w0 w g mb cb #[.int .i64 ck, .int .i64 cn, .int .i64 ca, .int .i64 pg, .int .i64 sl, .string bf] R M q) (hq : q ≤ 300) (hn : n < 4) (hRn : R n = some (x, t)) (hMn : M n = some (z, t)) (hlm : t.l.length = m + 1) (hcm : t.l[m]? = some ⟨pa, sa, ba⟩) {Q : Exit → Act → World → Prop}
    (hK : ∀ (v9 v10 v11 v12 v13 v14 v15 v43 v44 v45 v46 v47 v48 v49 v50 v51 v52 v53 v54 v55 v56 v57 v58 v59 v60 v61 v62 v63 v64 v65 v66 v67 v68 v69 v70 v71 v72 v73 v74 v75 v76 v77 v78 v79 v80 v81 v82 v83 v84 v85 v86 v87 v88 v89 v90 v91 v92 v93 v94 v95 v96 v97 v98 v99 v100 v101 v102 v103 v104 v105 v106 v107 v108 v109 v110 v111 v112 v113 v114 v115 v116 v117 v118 v119 v120 v121 v122 v123 v124 v125 v126 v127 v128 v129 v130 v131 v132 v133 v134 v135 v136 v137 v138 v139 v140 v141 v142 v143 v144 v145 v146 v147 v148 v149 v150 v151 v152 v153 v154 v155 v156 v157 v158 v159 v160 v161 v162 v163 v164 v165 v166 v167 v168 v169 v170 v171 v172 v173 v174 v175 v176 v177 v178 v179 v180 v181 v182 v183 v184 v185 v186 v187 v188 v189 v190 v191 v192 v193 v194 v195 v196 v197 v198 v199 v200 v201 v202 v203 v204 v205 v206 v207 v208 v209 v210 v211 v212 v213 v214 v215 v216 v217 v218 v219 v220 v221 v222 v223 v224 v225 v226 v227 v228 v229 v230 v231 v232 v233 v234 v235 v236 v237 v238 v239 : Value) (w' : World) (R' M' : Tb), RunS w0 w' g mb cb #[.int .i64 ck, .int .i64 cn, .int .i64 ca, .int .i64 pg, .int .i64 sl, .string bf] R' M' (q + 1) → Q .normal ⟨#[u0, u1, u2, .pointer (some ⟨g, 0, none⟩), .pointer (some ⟨mb, 0, none⟩), u5, .pointer (some ⟨cb, 0, none⟩), .int .i64 (n : Int), .pointer (some ⟨z, 0, none⟩), v9, v10, v11, v12, v13, v14, v15, u16, u17, u18, u19, u20, u21, u22, u23, u24, u25, u26, u27, u28, u29, u30, u31, u32, u33, u34, u35, u36, u37, u38, u39, u40, u41, .int .i64 3, v43, v44, v45, v46, v47, v48, v49, v50, v51, v52, v53, v54, v55, v56, v57, v58, v59, v60, v61, v62, v63, v64, v65, v66, v67, v68, v69, v70, v71, v72, v73, v74, v75, v76, v77, v78, v79, v80, v81, v82, v83, v84, v85, v86, v87, v88, v89, v90, v91, v92, v93, v94, v95, v96, v97, v98, v99, v100, v101, v102, v103, v104, v105, v106, v107, v108, v109, v110, v111, v112, v113, v114, v115, v116, v117, v118, v119, v120, v121, v122, v123, v124, v125, v126, v127, v128, v129, v130, v131, v132, v133, v134, v135, v136, v137, v138, v139, v140, v141, v142, v143, v144, v145, v146, v147, v148, v149, v150, v151, v152, v153, v154, v155, v156, v157, v158, v159, v160, v161, v162, v163, v164, v165, v166, v167, v168, v169, v170, v171, v172, v173, v174, v175, v176, v177, v178, v179, v180, v181, v182, v183, v184, v185, v186, v187, v188, v189, v190, v191, v192, v193, v194, v195, v196, v197, v198, v199, v200, v201, v202, v203, v204, v205, v206, v207, v208, v209, v210, v211, v212, v213, v214, v215, v216, v217, v218, v219, v220, v221, v222, v223, v224, v225, v226, v227, v228, v229, v230, v231, v232, v233, v234, v235, v236, v237, v238, v239, u240, u241, u242, u243], []⟩ w') :
    Code.wp Try.prog (subC (Try.f3.body.getD .skip) [1,1,1,1,1,0,1,0,0,1,1,0,0,1,1,1,1,0,1]) Q ⟨#[u0, u1, u2, .pointer (some ⟨g, 0, none⟩), .pointer (some ⟨mb, 0, none⟩), u5, .pointer (some ⟨cb, 0, none⟩), .int .i64 (n : Int), .pointer (some ⟨z, 0, none⟩), u9, u10, u11, u12, u13, u14, u15, u16, u17, u18, u19, u20, u21, u22, u23, u24, u25, u26, u27, u28, u29, u30, u31, u32, u33, u34, u35, u36, u37, u38, u39, u40, u41, .int .i64 3, u43, u44, u45, u46, u47, u48, u49, u50, u51, u52, u53, u54, u55, u56, u57, u58, u59, u60, u61, u62, u63, u64, u65, u66, u67, u68, u69, u70, u71, u72, u73, u74, u75, u76, u77, u78, u79, u80, u81, u82, u83, u84, u85, u86, u87, u88, u89, u90, u91, u92, u93, u94, u95, u96, u97, u98, u99, u100, u101, u102, u103, u104, u105, u106, u107, u108, u109, u110, u111, u112, u113, u114, u115, u116, u117, u118, u119, u120, u121, u122, u123, u124, u125, u126, u127, u128, u129, u130, u131, u132, u133, u134, u135, u136, u137, u138, u139, u140, u141, u142, u143, u144, u145, u146, u147, u148, u149, u150, u151, u152, u153, u154, u155, u156, u157, u158, u159, u160, u161, u162, u163, u164, u165, u166, u167, u168, u169, u170, u171, u172, u173, u174, u175, u176, u177, u178, u179, u180, u181, u182, u183, u184, u185, u186, u187, u188, u189, u190, u191, u192, u193, u194, u195, u196, u197, u198, u199, u200, u201, u202, u203, u204, u205, u206, u207, u208, u209, u210, u211, u212, u213, u214, u215, u216, u217, u218, u219, u220, u221, u222, u223, u224, u225, u226, u227, u228, u229, u230, u231, u232, u233, u234, u235, u236, u237, u238, u239, u240, u241, u242, u243], []⟩ w := by
  conv => arg 2; whnf
  have HK := hide hK
  clear hK
  have HS := hide h.ow
  have H := hide h
  have HQ : Hid (q ≤ 300) := hide hq
  have HG := hide (ow_getn HS.out (i := 0) rfl (j := n) (v := .pointer (some ⟨x, 0, none⟩)) (by rw [hRn]; rfl))
  have hfew := h.few n x t hRn
  have HPN := hide (ow_pop HS.out (i := 0) rfl hRn (by omega) hlm hcm)
  have HMN := hide hMn
  have HFE := hide hfew
  have HCM := hide hcm
  have HLM := hide hlm
  have hm1 : (t.l.length : Int) - 1 = (m : Int) := by omega
  have hm2 : (m : Int) < (t.l.length : Int) := by omega
  have hm0 : (0 : Int) ≤ (m : Int) := by omega
  have hm3 : (0 : Int) < (t.l.length : Int) := by omega
  have hm5 : (m : Int) ≤ 1000 := by omega
  clear h hq hn hRn hMn hlm hcm hfew
  go_wp2_with (first
    | (go_at_call 12; (with_reducible refine HG.out.mono ?_); rintro e w3 ⟨rfl, rfl⟩)
    | (go_at_call 14; (with_reducible refine HPN.out.mono ?_); rintro e w4 ⟨rfl, hs⟩; have SB := hide (hs.box 31 #[.int .i64 pa, .int .i64 sa, .string ba]); obtain ⟨b0, b1, b2, _⟩ := (SB.out.blk (i := 3) rfl).three; obtain ⟨Az, Bz, htz, _⟩ := SB.out.txn (i := 1) rfl HMN.out; obtain ⟨gz, ca2, ea, _⟩ := htz.l.block (by have := HLM.out; omega); subst ea; have d0 := htz.cells.1; have r0 := htz.l.cells HCM.out 0 (.int .i64 pa) rfl; have r1 := htz.l.cells HCM.out 1 (.int .i64 sa) rfl; have r2 := htz.l.cells HCM.out 2 (.string ba) rfl; replace r0 : (w4.alloc (.cells #[.int .i64 pa, .int .i64 sa, .string ba] 31)).cell? ⟨gz, m * 3, none⟩ = some (.int .i64 pa) := r0; replace r1 : (w4.alloc (.cells #[.int .i64 pa, .int .i64 sa, .string ba] 31)).cell? ⟨gz, m * 3 + 1, none⟩ = some (.int .i64 sa) := r1; replace r2 : (w4.alloc (.cells #[.int .i64 pa, .int .i64 sa, .string ba] 31)).cell? ⟨gz, m * 3 + 2, none⟩ = some (.string ba) := r2; have HZL := hide htz; clear hs htz))
  have hd1 : decide (0 < t.l.length) = true := decide_eq_true (by have := HLM.out; omega)
  clear hm3
  go_quiet (fail)
  have SB2 := hide (SB.out.below (Below.drewsN (w4.alloc (.cells #[.int .i64 pa, .int .i64 sa, .string ba] 31)) nq))
  have HZ2 := hide (HZL.out.below (Below.drewsN (w4.alloc (.cells #[.int .i64 pa, .int .i64 sa, .string ba] 31)) nq))
  generalize ((w4.alloc (.cells #[.int .i64 pa, .int .i64 sa, .string ba] 31)).drewN nq) = w5 at *
  clear SB HZL d0 r0 r1 r2 b0 b1 b2
  obtain ⟨Az, Bz2, htz, hback⟩ := SB2.out.txn (i := 1) rfl HMN.out
  obtain rfl : Az = .slice (some ⟨gz, 0, none⟩) t.l.length ca2 := by
    have e1 := htz.cells.1
    rw [HZ2.out.cells.1] at e1
    exact (Option.some.inj e1).symm
  have HTZ := hide htz
  have HBK := hide hback
  have HLOW : Hid (∀ W, (Instr.slice 35 (.slice (some ⟨gz, 0, none⟩) t.l.length ca2) none (some (.int .i64 (m : Int))) none).run Try.prog W = .ok (.slice (some ⟨gz, 0, none⟩) m ca2) W) := hide (fun W => run_lowK chK _ _ _ m (by have := htz.l.cap.2; have := HLM.out; omega) W)
  clear htz hback HZ2
  go_upto_region 44 with (fail)
  refine region_store 14 [Say.is (.pointer (some ⟨z, 0, none⟩)), Say.is (.pointer (some ⟨z, 0, none⟩)), Say.is (.pointer (some ⟨z, 0, none⟩)), Say.is (.pointer (some ⟨z, 0, none⟩)), Say.is (.slice (some ⟨gz, 0, none⟩) t.l.length ca2), Say.is (.pointer (some ⟨z, 0, none⟩)), Say.is (.pointer (some ⟨z, 0, none⟩)), Say.is (.pointer (some ⟨z, 0, none⟩)), Say.is (.slice (some ⟨gz, 0, none⟩) t.l.length ca2), Say.is (.int .i64 (t.l.length : Int)), Say.is (.int .i64 (m : Int)), Say.is (.slice (some ⟨gz, 0, none⟩) m ca2), Say.is (.pointer (some ⟨z, 0, none⟩)), Say.is (.pointer (some ⟨z, 0, none⟩))] (fun w9 => ∃ u, Below w5.heap.size w5 u ∧ w9 = u.setCell ⟨z, 0, none⟩ (.slice (some ⟨gz, 0, none⟩) m ca2)) rfl rfl rfl rfl (by kernel_rfl) (by kernel_rfl) (by kernel_rfl) (by kernel_rfl) (by kernel_rfl) ?_ ?_ ?_
  · intro i o hik ho a w2 hb hsz old dep
    match i, ho with
    | 0, ho =>
      obtain rfl := Option.some.inj ho
      have o8 : a.tmps.getD 8 undef = _ := old 8 (by kernel_rfl)
      rw [if_pos (wanted_none rfl)]
      refine grow_same (v := .pointer (some ⟨z, 0, none⟩)) ?_ rfl
      clear old dep ho hsz hb
      go_simp
    | 1, ho =>
      obtain rfl := Option.some.inj ho
      have o8 : a.tmps.getD 8 undef = _ := old 8 (by kernel_rfl)
      rw [if_pos (wanted_none rfl)]
      refine grow_same (v := .pointer (some ⟨z, 0, none⟩)) ?_ rfl
      clear old dep ho hsz hb
      go_simp
    | 2, ho =>
      obtain rfl := Option.some.inj ho
      have d1 : a.tmps.getD 191 undef = .pointer (some ⟨z, 0, none⟩) := dep 1 _ _ (by kernel_rfl) rfl rfl
      have e1 : a.tmps[191]?.getD undef = _ := (Array.getD_eq_getD_getElem? ..).symm.trans d1
      rw [if_pos (wanted_none rfl)]
      refine grow_same (v := .pointer (some ⟨z, 0, none⟩)) ?_ rfl
      clear old dep ho hsz hb
      go_simp
    | 3, ho =>
      obtain rfl := Option.some.inj ho
      have d2 : a.tmps.getD 192 undef = .pointer (some ⟨z, 0, none⟩) := dep 2 _ _ (by kernel_rfl) rfl rfl
      have e2 : a.tmps[192]?.getD undef = _ := (Array.getD_eq_getD_getElem? ..).symm.trans d2
      rw [if_pos (wanted_none rfl)]
      refine grow_same (v := .pointer (some ⟨z, 0, none⟩)) ?_ rfl
      clear old dep ho hsz hb
      go_simp
    | 4, ho =>
      obtain rfl := Option.some.inj ho
      have d3 : a.tmps.getD 193 undef = .pointer (some ⟨z, 0, none⟩) := dep 3 _ _ (by kernel_rfl) rfl rfl
      have e3 : a.tmps[193]?.getD undef = _ := (Array.getD_eq_getD_getElem? ..).symm.trans d3
      rw [if_pos (wanted_none rfl)]
      have c0 := (HTZ.out.below hb).cells.1
      refine grow_same (v := .slice (some ⟨gz, 0, none⟩) t.l.length ca2) ?_ rfl
      clear old dep ho hsz hb
      go_simp
    | 5, ho =>
      obtain rfl := Option.some.inj ho
      have o8 : a.tmps.getD 8 undef = _ := old 8 (by kernel_rfl)
      rw [if_pos (wanted_none rfl)]
      refine grow_same (v := .pointer (some ⟨z, 0, none⟩)) ?_ rfl
      clear old dep ho hsz hb
      go_simp
    | 6, ho =>
      obtain rfl := Option.some.inj ho
      have d5 : a.tmps.getD 195 undef = .pointer (some ⟨z, 0, none⟩) := dep 5 _ _ (by kernel_rfl) rfl rfl
      have e5 : a.tmps[195]?.getD undef = _ := (Array.getD_eq_getD_getElem? ..).symm.trans d5
      rw [if_pos (wanted_none rfl)]
      refine grow_same (v := .pointer (some ⟨z, 0, none⟩)) ?_ rfl
      clear old dep ho hsz hb
      go_simp
    | 7, ho =>
      obtain rfl := Option.some.inj ho
      have d6 : a.tmps.getD 196 undef = .pointer (some ⟨z, 0, none⟩) := dep 6 _ _ (by kernel_rfl) rfl rfl
      have e6 : a.tmps[196]?.getD undef = _ := (Array.getD_eq_getD_getElem? ..).symm.trans d6
      rw [if_pos (wanted_none rfl)]
      refine grow_same (v := .pointer (some ⟨z, 0, none⟩)) ?_ rfl
      clear old dep ho hsz hb
      go_simp
    | 8, ho =>
      obtain rfl := Option.some.inj ho
      have d7 : a.tmps.getD 197 undef = .pointer (some ⟨z, 0, none⟩) := dep 7 _ _ (by kernel_rfl) rfl rfl
      have e7 : a.tmps[197]?.getD undef = _ := (Array.getD_eq_getD_getElem? ..).symm.trans d7
      rw [if_pos (wanted_none rfl)]
      have c0 := (HTZ.out.below hb).cells.1
      refine grow_same (v := .slice (some ⟨gz, 0, none⟩) t.l.length ca2) ?_ rfl
      clear old dep ho hsz hb
      go_simp
    | 9, ho =>
      obtain rfl := Option.some.inj ho
      have d8 : a.tmps.getD 198 undef = .slice (some ⟨gz, 0, none⟩) t.l.length ca2 := dep 8 _ _ (by kernel_rfl) rfl rfl
      have e8 : a.tmps[198]?.getD undef = _ := (Array.getD_eq_getD_getElem? ..).symm.trans d8
      rw [if_pos (wanted_none rfl)]
      refine grow_same (v := .int .i64 (t.l.length : Int)) ?_ rfl
      clear old dep ho hsz hb
      go_simp
    | 10, ho =>
      obtain rfl := Option.some.inj ho
      have d9 : a.tmps.getD 199 undef = .int .i64 (t.l.length : Int) := dep 9 _ _ (by kernel_rfl) rfl rfl
      have e9 : a.tmps[199]?.getD undef = _ := (Array.getD_eq_getD_getElem? ..).symm.trans d9
      rw [if_pos (wanted_none rfl)]
      refine grow_same (v := .int .i64 (m : Int)) ?_ rfl
      clear old dep ho hsz hb
      go_simp
      rw [IntKind.wrap_i64]
      omega
    | 11, ho =>
      obtain rfl := Option.some.inj ho
      have d4 : a.tmps.getD 194 undef = .slice (some ⟨gz, 0, none⟩) t.l.length ca2 := dep 4 _ _ (by kernel_rfl) rfl rfl
      have e4 : a.tmps[194]?.getD undef = _ := (Array.getD_eq_getD_getElem? ..).symm.trans d4
      have d10 : a.tmps.getD 200 undef = .int .i64 (m : Int) := dep 10 _ _ (by kernel_rfl) rfl rfl
      have e10 : a.tmps[200]?.getD undef = _ := (Array.getD_eq_getD_getElem? ..).symm.trans d10
      rw [if_pos (wanted_none rfl)]
      have hlo := HLOW.out w2
      refine grow_same (v := .slice (some ⟨gz, 0, none⟩) m ca2) ?_ rfl
      clear old dep ho hsz hb
      go_simp
    | 12, ho =>
      obtain rfl := Option.some.inj ho
      have d0 : a.tmps.getD 190 undef = .pointer (some ⟨z, 0, none⟩) := dep 0 _ _ (by kernel_rfl) rfl rfl
      have e0 : a.tmps[190]?.getD undef = _ := (Array.getD_eq_getD_getElem? ..).symm.trans d0
      rw [if_pos (wanted_none rfl)]
      refine grow_same (v := .pointer (some ⟨z, 0, none⟩)) ?_ rfl
      clear old dep ho hsz hb
      go_simp
    | 13, ho =>
      obtain rfl := Option.some.inj ho
      have d12 : a.tmps.getD 202 undef = .pointer (some ⟨z, 0, none⟩) := dep 12 _ _ (by kernel_rfl) rfl rfl
      have e12 : a.tmps[202]?.getD undef = _ := (Array.getD_eq_getD_getElem? ..).symm.trans d12
      rw [if_pos (wanted_none rfl)]
      refine grow_same (v := .pointer (some ⟨z, 0, none⟩)) ?_ rfl
      clear old dep ho hsz hb
      go_simp
    | i + 14, ho => exact absurd hik (by omega)
  · intro a w2 hb hsz old dep
    have d11 : a.tmps.getD 201 undef = .slice (some ⟨gz, 0, none⟩) m ca2 := dep 11 _ _ (by kernel_rfl) rfl rfl
    have e11 : a.tmps[201]?.getD undef = _ := (Array.getD_eq_getD_getElem? ..).symm.trans d11
    have d13 : a.tmps.getD 203 undef = .pointer (some ⟨z, 0, none⟩) := dep 13 _ _ (by kernel_rfl) rfl rfl
    have e13 : a.tmps[203]?.getD undef = _ := (Array.getD_eq_getD_getElem? ..).symm.trans d13
    have htu := HTZ.out.below hb
    have c0 := htu.cells.1
    have cf := htu.blk.frozen 0
    refine ⟨w2.setCell ⟨z, 0, none⟩ (.slice (some ⟨gz, 0, none⟩) m ca2), ?_, w2, hb, rfl⟩
    clear old dep hsz hb htu
    go_simp
  · intro a w6 hR hsz hdf keep
    obtain ⟨tm, df⟩ := a
    have hx := frame_of [190, 191, 192, 193, 194, 195, 196, 197, 198, 199, 200, 201, 202, 203] (by kernel_rfl) hsz keep
    dsimp only at hdf hx
    simp only [List.foldl_cons, List.foldl_nil] at hx
    subst hdf
    clear hsz keep
    generalize tm.getD 190 undef = y190 at hx
    generalize tm.getD 191 undef = y191 at hx
    generalize tm.getD 192 undef = y192 at hx
    generalize tm.getD 193 undef = y193 at hx
    generalize tm.getD 194 undef = y194 at hx
    generalize tm.getD 195 undef = y195 at hx
    generalize tm.getD 196 undef = y196 at hx
    generalize tm.getD 197 undef = y197 at hx
    generalize tm.getD 198 undef = y198 at hx
    generalize tm.getD 199 undef = y199 at hx
    generalize tm.getD 200 undef = y200 at hx
    generalize tm.getD 201 undef = y201 at hx
    generalize tm.getD 202 undef = y202 at hx
    generalize tm.getD 203 undef = y203 at hx
    simp only [List.setIfInBounds_toArray, List.set_cons_succ, List.set_cons_zero] at hx
    subst hx
    obtain ⟨u9, hb, rfl⟩ := hR
    have hbz := hb.size
    obtain ⟨hp3, hk3, hn3⟩ := (HTZ.out.below hb).lSet (Kept.refl _ u9) ((HTZ.out.below hb).l.low (k := m) (by have := HLM.out; omega)) (fun k e => .inl e)
    have HFIN := hide (HBK.out _ _ ⟨(Kept.of_below hb).trans hk3 (fun k hk => .inl hk), .slice (some ⟨gz, 0, none⟩) m ca2, Bz2, hp3, fun k hk => (hn3 k hk).imp id (fun h => Nat.le_trans hbz h)⟩)
    clear hp3 hk3 hn3 hb hbz
    go_wp2
    exact HK.out _ _ _ _ _ _ _ _ _ _ _ _ _ _ _ _ _ _ _ _ _ _ _ _ _ _ _ _ _ _ _ _ _ _ _ _ _ _ _ _ _ _ _ _ _ _ _ _ _ _ _ _ _ _ _ _ _ _ _ _ _ _ _ _ _ _ _ _ _ _ _ _ _ _ _ _ _ _ _ _ _ _ _ _ _ _ _ _ _ _ _ _ _ _ _ _ _ _ _ _ _ _ _ _ _ _ _ _ _ _ _ _ _ _ _ _ _ _ _ _ _ _ _ _ _ _ _ _ _ _ _ _ _ _ _ _ _ _ _ _ _ _ _ _ _ _ _ _ _ _ _ _ _ _ _ _ _ _ _ _ _ _ _ _ _ _ _ _ _ _ _ _ _ _ _ _ _ _ _ _ _ _ _ _ _ _ _ _ _ _ _ _ _ _ _ _ _ _ _ _ _ _ _ _ _ _ _ (H.out.both (by have := HFE.out; show (t.l.take m).length ≤ _ ∧ t.ops ≤ _; rw [List.length_take]; omega) (HFIN.out.take 3))
end Go.Proofs.Ytkegfedbffhnfaa
