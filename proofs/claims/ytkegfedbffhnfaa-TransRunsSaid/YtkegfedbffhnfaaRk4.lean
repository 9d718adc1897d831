/-
  TransRuns' walk: Save.
-/
import Derived.Test.YtkegfedbffhnfaaSub11
namespace Go.Proofs.Ytkegfedbffhnfaa
open Go.RowKit
set_option maxRecDepth 100000
set_option linter.unusedSimpArgs false
set_option linter.unusedVariables false

theorem updT_same {T : Tb} {n : Nat} {o : Option (Nat × Tx)} (h : T n = o) : updT T n o = T := by
  funext k
  by_cases e : k = n
  · subst e; rw [updT_at, h]
  · rw [updT_ne e]
set_option maxHeartbeats 16000000 in
theorem rk4n {w0 w : World} {g mb cb n q : Nat} {R M : Tb} {ck cn ca pg sl : Int} {bf : ByteArray} {u0 u1 u2 u5 u9 u10 u11 u12 u13 u14 u15 u16 u17 u18 u19 u20 u21 u22 u23 u24 u25 u26 u27 u28 u29 u30 u31 u32 u33 u34 u35 u36 u37 u38 u39 u40 u41 u43 u44 u45 u46 u47 u48 u49 u50 u51 u52 u53 u54 u55 u56 u57 u58 u59 u60 u61 u62 u63 u64 u65 u66 u67 u68 u69 u70 u71 u72 u73 u74 u75 u76 u77 u78 u79 u80 u81 u82 u83 u84 u85 u86 u87 u88 u89 u90 u91 u92 u93 u94 u95 u96 u97 u98 u99 u100 u101 u102 u103 u104 u105 u106 u107 u108 u109 u110 u111 u112 u113 u114 u115 u116 u117 u118 u119 u120 u121 u122 u123 u124 u125 u126 u127 u128 u129 u130 u131 u132 u133 u134 u135 u136 u137 u138 u139 u140 u141 u142 u143 u144 u145 u146 u147 u148 u149 u150 u151 u152 u153 u154 u155 u156 u157 u158 u159 u160 u161 u162 u163 u164 u165 u166 u167 u168 u169 u170 u171 u172 u173 u174 u175 u176 u177 u178 u179 u180 u181 u182 u183 u184 u185 u186 u187 u188 u189 u190 u191 u192 u193 u194 u195 u196 u197 u198 u199 u200 u201 u202 u203 u204 u205 u206 u207 u208 u209 u210 u211 u212 u213 u214 u215 u216 u217 u218 u219 u220 u221 u222 u223 u224 u225 u226 u227 u228 u229 u230 u231 u232 u233 u234 u235 u236 u237 u238 u239 u240 u241 u242 u243 : Value} (h : RunS w0 w g mb cb #[.int .i64 ck, .int .i64 cn, .int .i64 ca, .int .i64 pg, .int .i64 sl, .string bf] R M q) (hq : q ≤ 300) (hn : n < 4) (hRn : R n = none) {Q : Exit → Act → World → Prop}
    (hK : ∀ (v9 v10 v11 v12 v13 v14 v15 v43 v44 v45 v46 v47 v48 v49 v50 v51 v52 v53 v54 v55 v56 v57 v58 v59 v60 v61 v62 v63 v64 v65 v66 v67 v68 v69 v70 v71 v72 v73 v74 v75 v76 v77 v78 v79 v80 v81 v82 v83 v84 v85 v86 v87 v88 v89 v90 v91 v92 v93 v94 v95 v96 v97 v98 v99 v100 v101 v102 v103 v104 v105 v106 v107 v108 v109 v110 v111 v112 v113 v114 v115 v116 v117 v118 v119 v120 v121 v122 v123 v124 v125 v126 v127 v128 v129 v130 v131 v132 v133 v134 v135 v136 v137 v138 v139 v140 v141 v142 v143 v144 v145 v146 v147 v148 v149 v150 v151 v152 v153 v154 v155 v156 v157 v158 v159 v160 v161 v162 v163 v164 v165 v166 v167 v168 v169 v170 v171 v172 v173 v174 v175 v176 v177 v178 v179 v180 v181 v182 v183 v184 v185 v186 v187 v188 v189 v190 v191 v192 v193 v194 v195 v196 v197 v198 v199 v200 v201 v202 v203 v204 v205 v206 v207 v208 v209 v210 v211 v212 v213 v214 v215 v216 v217 v218 v219 v220 v221 v222 v223 v224 v225 v226 v227 v228 v229 v230 v231 v232 v233 v234 v235 v236 v237 v238 v239 : Value) (w' : World) (R' M' : Tb), RunS w0 w' g mb cb #[.int .i64 ck, .int .i64 cn, .int .i64 ca, .int .i64 pg, .int .i64 sl, .string bf] R' M' (q + 1) → Q .normal ⟨#[u0, u1, u2, .pointer (some ⟨g, 0, none⟩), .pointer (some ⟨mb, 0, none⟩), u5, .pointer (some ⟨cb, 0, none⟩), .int .i64 (n : Int), .pointer none, v9, v10, v11, v12, v13, v14, v15, u16, u17, u18, u19, u20, u21, u22, u23, u24, u25, u26, u27, u28, u29, u30, u31, u32, u33, u34, u35, u36, u37, u38, u39, u40, u41, .int .i64 4, v43, v44, v45, v46, v47, v48, v49, v50, v51, v52, v53, v54, v55, v56, v57, v58, v59, v60, v61, v62, v63, v64, v65, v66, v67, v68, v69, v70, v71, v72, v73, v74, v75, v76, v77, v78, v79, v80, v81, v82, v83, v84, v85, v86, v87, v88, v89, v90, v91, v92, v93, v94, v95, v96, v97, v98, v99, v100, v101, v102, v103, v104, v105, v106, v107, v108, v109, v110, v111, v112, v113, v114, v115, v116, v117, v118, v119, v120, v121, v122, v123, v124, v125, v126, v127, v128, v129, v130, v131, v132, v133, v134, v135, v136, v137, v138, v139, v140, v141, v142, v143, v144, v145, v146, v147, v148, v149, v150, v151, v152, v153, v154, v155, v156, v157, v158, v159, v160, v161, v162, v163, v164, v165, v166, v167, v168, v169, v170, v171, v172, v173, v174, v175, v176, v177, v178, v179, v180, v181, v182, v183, v184, v185, v186, v187, v188, v189, v190, v191, v192, v193, v194, v195, v196, v197, v198, v199, v200, v201, v202, v203, v204, v205, v206, v207, v208, v209, v210, v211, v212, v213, v214, v215, v216, v217, v218, v219, v220, v221, v222, v223, v224, v225, v226, v227, v228, v229, v230, v231, v232, v233, v234, v235, v236, v237, v238, v239, u240, u241, u242, u243], []⟩ w') :
    Code.wp Try.prog (subC (Try.f3.body.getD .skip) [1,1,1,1,1,0,1,0,0,1,1,0,0,1,1,1,1,0,1]) Q ⟨#[u0, u1, u2, .pointer (some ⟨g, 0, none⟩), .pointer (some ⟨mb, 0, none⟩), u5, .pointer (some ⟨cb, 0, none⟩), .int .i64 (n : Int), .pointer none, u9, u10, u11, u12, u13, u14, u15, u16, u17, u18, u19, u20, u21, u22, u23, u24, u25, u26, u27, u28, u29, u30, u31, u32, u33, u34, u35, u36, u37, u38, u39, u40, u41, .int .i64 4, u43, u44, u45, u46, u47, u48, u49, u50, u51, u52, u53, u54, u55, u56, u57, u58, u59, u60, u61, u62, u63, u64, u65, u66, u67, u68, u69, u70, u71, u72, u73, u74, u75, u76, u77, u78, u79, u80, u81, u82, u83, u84, u85, u86, u87, u88, u89, u90, u91, u92, u93, u94, u95, u96, u97, u98, u99, u100, u101, u102, u103, u104, u105, u106, u107, u108, u109, u110, u111, u112, u113, u114, u115, u116, u117, u118, u119, u120, u121, u122, u123, u124, u125, u126, u127, u128, u129, u130, u131, u132, u133, u134, u135, u136, u137, u138, u139, u140, u141, u142, u143, u144, u145, u146, u147, u148, u149, u150, u151, u152, u153, u154, u155, u156, u157, u158, u159, u160, u161, u162, u163, u164, u165, u166, u167, u168, u169, u170, u171, u172, u173, u174, u175, u176, u177, u178, u179, u180, u181, u182, u183, u184, u185, u186, u187, u188, u189, u190, u191, u192, u193, u194, u195, u196, u197, u198, u199, u200, u201, u202, u203, u204, u205, u206, u207, u208, u209, u210, u211, u212, u213, u214, u215, u216, u217, u218, u219, u220, u221, u222, u223, u224, u225, u226, u227, u228, u229, u230, u231, u232, u233, u234, u235, u236, u237, u238, u239, u240, u241, u242, u243], []⟩ w := by
  conv => arg 2; whnf
  have HK := hide hK
  clear hK
  have HS := hide h.ow
  have H := hide h
  have HQ : Hid (q ≤ 300) := hide hq
  have HG := hide (ow_getn HS.out (i := 0) rfl (j := n) (v := .pointer none) (by rw [hRn]; rfl))
  clear h hq hn hRn
  go_wp2_with (first
    | (go_at_call 12; (with_reducible refine HG.out.mono ?_); rintro e w3 ⟨rfl, rfl⟩)
    | (go_at_call 15; (with_reducible refine (save_nil _).mono ?_); rintro e w4 ⟨rfl, rfl⟩))
  exact HK.out _ _ _ _ _ _ _ _ _ _ _ _ _ _ _ _ _ _ _ _ _ _ _ _ _ _ _ _ _ _ _ _ _ _ _ _ _ _ _ _ _ _ _ _ _ _ _ _ _ _ _ _ _ _ _ _ _ _ _ _ _ _ _ _ _ _ _ _ _ _ _ _ _ _ _ _ _ _ _ _ _ _ _ _ _ _ _ _ _ _ _ _ _ _ _ _ _ _ _ _ _ _ _ _ _ _ _ _ _ _ _ _ _ _ _ _ _ _ _ _ _ _ _ _ _ _ _ _ _ _ _ _ _ _ _ _ _ _ _ _ _ _ _ _ _ _ _ _ _ _ _ _ _ _ _ _ _ _ _ _ _ _ _ _ _ _ _ _ _ _ _ _ _ _ _ _ _ _ _ _ _ _ _ _ _ _ _ _ _ _ _ _ _ _ _ _ _ _ _ _ _ _ _ _ _ _ _ (H.out.more)
set_option maxHeartbeats 16000000 in
theorem rk4f {w0 w : World} {g mb cb n q : Nat} {R M : Tb} {ck cn ca pg sl : Int} {bf : ByteArray} {x z : Nat} {t : Tx} {u0 u1 u2 u5 u9 u10 u11 u12 u13 u14 u15 u16 u17 u18 u19 u20 u21 u22 u23 u24 u25 u26 u27 u28 u29 u30 u31 u32 u33 u34 u35 u36 u37 u38 u39 u40 u41 u43 u44 u45 u46 u47 u48 u49 u50 u51 u52 u53 u54 u55 u56 u57 u58 u59 u60 u61 u62 u63 u64 u65 u66 u67 u68 u69 u70 u71 u72 u73 u74 u75 u76 u77 u78 u79 u80 u81 u82 u83 u84 u85 u86 u87 u88 u89 u90 u91 u92 u93 u94 u95 u96 u97 u98 u99 u100 u101 u102 u103 u104 u105 u106 u107 u108 u109 u110 u111 u112 u113 u114 u115 u116 u117 u118 u119 u120 u121 u122 u123 u124 u125 u126 u127 u128 u129 u130 u131 u132 u133 u134 u135 u136 u137 u138 u139 u140 u141 u142 u143 u144 u145 u146 u147 u148 u149 u150 u151 u152 u153 u154 u155 u156 u157 u158 u159 u160 u161 u162 u163 u164 u165 u166 u167 u168 u169 u170 u171 u172 u173 u174 u175 u176 u177 u178 u179 u180 u181 u182 u183 u184 u185 u186 u187 u188 u189 u190 u191 u192 u193 u194 u195 u196 u197 u198 u199 u200 u201 u202 u203 u204 u205 u206 u207 u208 u209 u210 u211 u212 u213 u214 u215 u216 u217 u218 u219 u220 u221 u222 u223 u224 u225 u226 u227 u228 u229 u230 u231 u232 u233 u234 u235 u236 u237 u238 u239 u240 u241 u242 u243 : Value} (h : RunS w0 w g mb cb #[.int .i64 ck, .int .i64 cn, .int .i64 ca, .int .i64 pg, .int .i64 sl, .string bf] R M q) (hq : q ≤ 300) (hn : n < 4) (hRn : R n = some (x, t)) (hMn : M n = some (z, t)) (hsf : 4 ≤ t.sv.length) {Q : Exit → Act → World → Prop}
    (hK : ∀ (v9 v10 v11 v12 v13 v14 v15 v43 v44 v45 v46 v47 v48 v49 v50 v51 v52 v53 v54 v55 v56 v57 v58 v59 v60 v61 v62 v63 v64 v65 v66 v67 v68 v69 v70 v71 v72 v73 v74 v75 v76 v77 v78 v79 v80 v81 v82 v83 v84 v85 v86 v87 v88 v89 v90 v91 v92 v93 v94 v95 v96 v97 v98 v99 v100 v101 v102 v103 v104 v105 v106 v107 v108 v109 v110 v111 v112 v113 v114 v115 v116 v117 v118 v119 v120 v121 v122 v123 v124 v125 v126 v127 v128 v129 v130 v131 v132 v133 v134 v135 v136 v137 v138 v139 v140 v141 v142 v143 v144 v145 v146 v147 v148 v149 v150 v151 v152 v153 v154 v155 v156 v157 v158 v159 v160 v161 v162 v163 v164 v165 v166 v167 v168 v169 v170 v171 v172 v173 v174 v175 v176 v177 v178 v179 v180 v181 v182 v183 v184 v185 v186 v187 v188 v189 v190 v191 v192 v193 v194 v195 v196 v197 v198 v199 v200 v201 v202 v203 v204 v205 v206 v207 v208 v209 v210 v211 v212 v213 v214 v215 v216 v217 v218 v219 v220 v221 v222 v223 v224 v225 v226 v227 v228 v229 v230 v231 v232 v233 v234 v235 v236 v237 v238 v239 : Value) (w' : World) (R' M' : Tb), RunS w0 w' g mb cb #[.int .i64 ck, .int .i64 cn, .int .i64 ca, .int .i64 pg, .int .i64 sl, .string bf] R' M' (q + 1) → Q .normal ⟨#[u0, u1, u2, .pointer (some ⟨g, 0, none⟩), .pointer (some ⟨mb, 0, none⟩), u5, .pointer (some ⟨cb, 0, none⟩), .int .i64 (n : Int), .pointer (some ⟨z, 0, none⟩), v9, v10, v11, v12, v13, v14, v15, u16, u17, u18, u19, u20, u21, u22, u23, u24, u25, u26, u27, u28, u29, u30, u31, u32, u33, u34, u35, u36, u37, u38, u39, u40, u41, .int .i64 4, v43, v44, v45, v46, v47, v48, v49, v50, v51, v52, v53, v54, v55, v56, v57, v58, v59, v60, v61, v62, v63, v64, v65, v66, v67, v68, v69, v70, v71, v72, v73, v74, v75, v76, v77, v78, v79, v80, v81, v82, v83, v84, v85, v86, v87, v88, v89, v90, v91, v92, v93, v94, v95, v96, v97, v98, v99, v100, v101, v102, v103, v104, v105, v106, v107, v108, v109, v110, v111, v112, v113, v114, v115, v116, v117, v118, v119, v120, v121, v122, v123, v124, v125, v126, v127, v128, v129, v130, v131, v132, v133, v134, v135, v136, v137, v138, v139, v140, v141, v142, v143, v144, v145, v146, v147, v148, v149, v150, v151, v152, v153, v154, v155, v156, v157, v158, v159, v160, v161, v162, v163, v164, v165, v166, v167, v168, v169, v170, v171, v172, v173, v174, v175, v176, v177, v178, v179, v180, v181, v182, v183, v184, v185, v186, v187, v188, v189, v190, v191, v192, v193, v194, v195, v196, v197, v198, v199, v200, v201, v202, v203, v204, v205, v206, v207, v208, v209, v210, v211, v212, v213, v214, v215, v216, v217, v218, v219, v220, v221, v222, v223, v224, v225, v226, v227, v228, v229, v230, v231, v232, v233, v234, v235, v236, v237, v238, v239, u240, u241, u242, u243], []⟩ w') :
    Code.wp Try.prog (subC (Try.f3.body.getD .skip) [1,1,1,1,1,0,1,0,0,1,1,0,0,1,1,1,1,0,1]) Q ⟨#[u0, u1, u2, .pointer (some ⟨g, 0, none⟩), .pointer (some ⟨mb, 0, none⟩), u5, .pointer (some ⟨cb, 0, none⟩), .int .i64 (n : Int), .pointer (some ⟨z, 0, none⟩), u9, u10, u11, u12, u13, u14, u15, u16, u17, u18, u19, u20, u21, u22, u23, u24, u25, u26, u27, u28, u29, u30, u31, u32, u33, u34, u35, u36, u37, u38, u39, u40, u41, .int .i64 4, u43, u44, u45, u46, u47, u48, u49, u50, u51, u52, u53, u54, u55, u56, u57, u58, u59, u60, u61, u62, u63, u64, u65, u66, u67, u68, u69, u70, u71, u72, u73, u74, u75, u76, u77, u78, u79, u80, u81, u82, u83, u84, u85, u86, u87, u88, u89, u90, u91, u92, u93, u94, u95, u96, u97, u98, u99, u100, u101, u102, u103, u104, u105, u106, u107, u108, u109, u110, u111, u112, u113, u114, u115, u116, u117, u118, u119, u120, u121, u122, u123, u124, u125, u126, u127, u128, u129, u130, u131, u132, u133, u134, u135, u136, u137, u138, u139, u140, u141, u142, u143, u144, u145, u146, u147, u148, u149, u150, u151, u152, u153, u154, u155, u156, u157, u158, u159, u160, u161, u162, u163, u164, u165, u166, u167, u168, u169, u170, u171, u172, u173, u174, u175, u176, u177, u178, u179, u180, u181, u182, u183, u184, u185, u186, u187, u188, u189, u190, u191, u192, u193, u194, u195, u196, u197, u198, u199, u200, u201, u202, u203, u204, u205, u206, u207, u208, u209, u210, u211, u212, u213, u214, u215, u216, u217, u218, u219, u220, u221, u222, u223, u224, u225, u226, u227, u228, u229, u230, u231, u232, u233, u234, u235, u236, u237, u238, u239, u240, u241, u242, u243], []⟩ w := by
  conv => arg 2; whnf
  have HK := hide hK
  clear hK
  have HS := hide h.ow
  have H := hide h
  have HQ : Hid (q ≤ 300) := hide hq
  have HG := hide (ow_getn HS.out (i := 0) rfl (j := n) (v := .pointer (some ⟨x, 0, none⟩)) (by rw [hRn]; rfl))
  obtain ⟨Az, Bz, htz, _⟩ := h.ow.txn (i := 1) rfl hMn
  obtain ⟨Bb, cb2, rfl⟩ := htz.s.form
  have s0 : w.cell? ⟨z, 1, none⟩ = some (.slice Bb t.sv.length cb2) := htz.cells.2.2
  have s4 : ¬ (t.sv.length : Int) < 4 := by omega
  obtain ⟨e1, e2⟩ := save_many (t := t) (by omega)
  have HSV : Hid (Calls Try.prog 15 #[.pointer (some ⟨x, 0, none⟩)] w fun e W' => e = .returned (.int .i64 0) ∧ Ow w0 (fun _ => False) W' [Res.tt g (R), Res.tab layM 29 mb (M), Res.blk cb 33 #[.int .i64 ck, .int .i64 cn, .int .i64 ca, .int .i64 pg, .int .i64 sl, .string bf]]) := hide (by
    have h9 := ow_save HS.out (i := 0) rfl hRn
    rw [e1, e2, updT_same hRn] at h9
    exact h9)
  clear h hq hn hRn hMn hsf htz e1 e2
  go_wp2_with (first
    | (go_at_call 12; (with_reducible refine HG.out.mono ?_); rintro e w3 ⟨rfl, rfl⟩)
    | (go_at_call 15; (with_reducible refine HSV.out.mono ?_); rintro e w4 ⟨rfl, hs⟩; have HE := hide hs; clear hs))
  exact HK.out _ _ _ _ _ _ _ _ _ _ _ _ _ _ _ _ _ _ _ _ _ _ _ _ _ _ _ _ _ _ _ _ _ _ _ _ _ _ _ _ _ _ _ _ _ _ _ _ _ _ _ _ _ _ _ _ _ _ _ _ _ _ _ _ _ _ _ _ _ _ _ _ _ _ _ _ _ _ _ _ _ _ _ _ _ _ _ _ _ _ _ _ _ _ _ _ _ _ _ _ _ _ _ _ _ _ _ _ _ _ _ _ _ _ _ _ _ _ _ _ _ _ _ _ _ _ _ _ _ _ _ _ _ _ _ _ _ _ _ _ _ _ _ _ _ _ _ _ _ _ _ _ _ _ _ _ _ _ _ _ _ _ _ _ _ _ _ _ _ _ _ _ _ _ _ _ _ _ _ _ _ _ _ _ _ _ _ _ _ _ _ _ _ _ _ _ _ _ _ _ _ _ _ _ _ _ _ (H.out.next HE.out)
set_option maxHeartbeats 16000000 in
theorem rk4s {w0 w : World} {g mb cb n q : Nat} {R M : Tb} {ck cn ca pg sl : Int} {bf : ByteArray} {x z : Nat} {t : Tx} {u0 u1 u2 u5 u9 u10 u11 u12 u13 u14 u15 u16 u17 u18 u19 u20 u21 u22 u23 u24 u25 u26 u27 u28 u29 u30 u31 u32 u33 u34 u35 u36 u37 u38 u39 u40 u41 u43 u44 u45 u46 u47 u48 u49 u50 u51 u52 u53 u54 u55 u56 u57 u58 u59 u60 u61 u62 u63 u64 u65 u66 u67 u68 u69 u70 u71 u72 u73 u74 u75 u76 u77 u78 u79 u80 u81 u82 u83 u84 u85 u86 u87 u88 u89 u90 u91 u92 u93 u94 u95 u96 u97 u98 u99 u100 u101 u102 u103 u104 u105 u106 u107 u108 u109 u110 u111 u112 u113 u114 u115 u116 u117 u118 u119 u120 u121 u122 u123 u124 u125 u126 u127 u128 u129 u130 u131 u132 u133 u134 u135 u136 u137 u138 u139 u140 u141 u142 u143 u144 u145 u146 u147 u148 u149 u150 u151 u152 u153 u154 u155 u156 u157 u158 u159 u160 u161 u162 u163 u164 u165 u166 u167 u168 u169 u170 u171 u172 u173 u174 u175 u176 u177 u178 u179 u180 u181 u182 u183 u184 u185 u186 u187 u188 u189 u190 u191 u192 u193 u194 u195 u196 u197 u198 u199 u200 u201 u202 u203 u204 u205 u206 u207 u208 u209 u210 u211 u212 u213 u214 u215 u216 u217 u218 u219 u220 u221 u222 u223 u224 u225 u226 u227 u228 u229 u230 u231 u232 u233 u234 u235 u236 u237 u238 u239 u240 u241 u242 u243 : Value} (h : RunS w0 w g mb cb #[.int .i64 ck, .int .i64 cn, .int .i64 ca, .int .i64 pg, .int .i64 sl, .string bf] R M q) (hq : q ≤ 300) (hn : n < 4) (hRn : R n = some (x, t)) (hMn : M n = some (z, t)) (hsf : t.sv.length < 4) {Q : Exit → Act → World → Prop}
    (hK : ∀ (v9 v10 v11 v12 v13 v14 v15 v43 v44 v45 v46 v47 v48 v49 v50 v51 v52 v53 v54 v55 v56 v57 v58 v59 v60 v61 v62 v63 v64 v65 v66 v67 v68 v69 v70 v71 v72 v73 v74 v75 v76 v77 v78 v79 v80 v81 v82 v83 v84 v85 v86 v87 v88 v89 v90 v91 v92 v93 v94 v95 v96 v97 v98 v99 v100 v101 v102 v103 v104 v105 v106 v107 v108 v109 v110 v111 v112 v113 v114 v115 v116 v117 v118 v119 v120 v121 v122 v123 v124 v125 v126 v127 v128 v129 v130 v131 v132 v133 v134 v135 v136 v137 v138 v139 v140 v141 v142 v143 v144 v145 v146 v147 v148 v149 v150 v151 v152 v153 v154 v155 v156 v157 v158 v159 v160 v161 v162 v163 v164 v165 v166 v167 v168 v169 v170 v171 v172 v173 v174 v175 v176 v177 v178 v179 v180 v181 v182 v183 v184 v185 v186 v187 v188 v189 v190 v191 v192 v193 v194 v195 v196 v197 v198 v199 v200 v201 v202 v203 v204 v205 v206 v207 v208 v209 v210 v211 v212 v213 v214 v215 v216 v217 v218 v219 v220 v221 v222 v223 v224 v225 v226 v227 v228 v229 v230 v231 v232 v233 v234 v235 v236 v237 v238 v239 : Value) (w' : World) (R' M' : Tb), RunS w0 w' g mb cb #[.int .i64 ck, .int .i64 cn, .int .i64 ca, .int .i64 pg, .int .i64 sl, .string bf] R' M' (q + 1) → Q .normal ⟨#[u0, u1, u2, .pointer (some ⟨g, 0, none⟩), .pointer (some ⟨mb, 0, none⟩), u5, .pointer (some ⟨cb, 0, none⟩), .int .i64 (n : Int), .pointer (some ⟨z, 0, none⟩), v9, v10, v11, v12, v13, v14, v15, u16, u17, u18, u19, u20, u21, u22, u23, u24, u25, u26, u27, u28, u29, u30, u31, u32, u33, u34, u35, u36, u37, u38, u39, u40, u41, .int .i64 4, v43, v44, v45, v46, v47, v48, v49, v50, v51, v52, v53, v54, v55, v56, v57, v58, v59, v60, v61, v62, v63, v64, v65, v66, v67, v68, v69, v70, v71, v72, v73, v74, v75, v76, v77, v78, v79, v80, v81, v82, v83, v84, v85, v86, v87, v88, v89, v90, v91, v92, v93, v94, v95, v96, v97, v98, v99, v100, v101, v102, v103, v104, v105, v106, v107, v108, v109, v110, v111, v112, v113, v114, v115, v116, v117, v118, v119, v120, v121, v122, v123, v124, v125, v126, v127, v128, v129, v130, v131, v132, v133, v134, v135, v136, v137, v138, v139, v140, v141, v142, v143, v144, v145, v146, v147, v148, v149, v150, v151, v152, v153, v154, v155, v156, v157, v158, v159, v160, v161, v162, v163, v164, v165, v166, v167, v168, v169, v170, v171, v172, v173, v174, v175, v176, v177, v178, v179, v180, v181, v182, v183, v184, v185, v186, v187, v188, v189, v190, v191, v192, v193, v194, v195, v196, v197, v198, v199, v200, v201, v202, v203, v204, v205, v206, v207, v208, v209, v210, v211, v212, v213, v214, v215, v216, v217, v218, v219, v220, v221, v222, v223, v224, v225, v226, v227, v228, v229, v230, v231, v232, v233, v234, v235, v236, v237, v238, v239, u240, u241, u242, u243], []⟩ w') :
    Code.wp Try.prog (subC (Try.f3.body.getD .skip) [1,1,1,1,1,0,1,0,0,1,1,0,0,1,1,1,1,0,1]) Q ⟨#[u0, u1, u2, .pointer (some ⟨g, 0, none⟩), .pointer (some ⟨mb, 0, none⟩), u5, .pointer (some ⟨cb, 0, none⟩), .int .i64 (n : Int), .pointer (some ⟨z, 0, none⟩), u9, u10, u11, u12, u13, u14, u15, u16, u17, u18, u19, u20, u21, u22, u23, u24, u25, u26, u27, u28, u29, u30, u31, u32, u33, u34, u35, u36, u37, u38, u39, u40, u41, .int .i64 4, u43, u44, u45, u46, u47, u48, u49, u50, u51, u52, u53, u54, u55, u56, u57, u58, u59, u60, u61, u62, u63, u64, u65, u66, u67, u68, u69, u70, u71, u72, u73, u74, u75, u76, u77, u78, u79, u80, u81, u82, u83, u84, u85, u86, u87, u88, u89, u90, u91, u92, u93, u94, u95, u96, u97, u98, u99, u100, u101, u102, u103, u104, u105, u106, u107, u108, u109, u110, u111, u112, u113, u114, u115, u116, u117, u118, u119, u120, u121, u122, u123, u124, u125, u126, u127, u128, u129, u130, u131, u132, u133, u134, u135, u136, u137, u138, u139, u140, u141, u142, u143, u144, u145, u146, u147, u148, u149, u150, u151, u152, u153, u154, u155, u156, u157, u158, u159, u160, u161, u162, u163, u164, u165, u166, u167, u168, u169, u170, u171, u172, u173, u174, u175, u176, u177, u178, u179, u180, u181, u182, u183, u184, u185, u186, u187, u188, u189, u190, u191, u192, u193, u194, u195, u196, u197, u198, u199, u200, u201, u202, u203, u204, u205, u206, u207, u208, u209, u210, u211, u212, u213, u214, u215, u216, u217, u218, u219, u220, u221, u222, u223, u224, u225, u226, u227, u228, u229, u230, u231, u232, u233, u234, u235, u236, u237, u238, u239, u240, u241, u242, u243], []⟩ w := by
  conv => arg 2; whnf
  have HK := hide hK
  clear hK
  have HS := hide h.ow
  have H := hide h
  have HQ : Hid (q ≤ 300) := hide hq
  have HRN := hide hRn
  obtain ⟨Az, Bz, htz, hback⟩ := h.ow.txn (i := 1) rfl hMn
  have HBK := hide hback
  obtain ⟨Aa, c, rfl⟩ := htz.l.form
  obtain ⟨Bb, cb2, rfl⟩ := htz.s.form
  have s0 : w.cell? ⟨z, 1, none⟩ = some (.slice Bb t.sv.length cb2) := htz.cells.2.2
  have s4 : (t.sv.length : Int) < 4 := by omega
  have HT0 := hide htz
  have hbel : Below w.heap.size w (w.drew.alloc (.cells #[.int .i64 (t.l.length : Int)] 3)) := (Below.refl _ w).drew.alloc (by simp) _
  have h1 := htz.below hbel
  obtain ⟨v', w9, hrun, hr, hg, hv⟩ := run_append_k (K := numK) (w := (w.drew.alloc (.cells #[.int .i64 (t.l.length : Int)] 3))) (b := w.heap.size) (c := 1) (x := t.l.length) h1.s (by omega) (fun i u hu => (Blk.new_ w.drew #[.int .i64 (t.l.length : Int)] 3 rfl : Blk (w.drew.alloc (.cells #[.int .i64 (t.l.length : Int)] 3)) w.heap.size 3 #[.int .i64 (t.l.length : Int)]).cell i u (by rw [← hu, ← Array.getElem?_toList]; rfl)) 36
  have HRUN : Hid ((Builtin.append_ #[36, 36] 36 #[.slice Bb t.sv.length cb2, .slice (some ⟨w.heap.size, 0, none⟩) 1 1]).run Try.prog (w.drew.alloc (.cells #[.int .i64 (t.l.length : Int)] 3)) = .ok v' w9) := hide hrun
  have hk9 : Kept (fun k => (Value.slice Bb t.sv.length cb2).ownBlock = some k) (w.drew.alloc (.cells #[.int .i64 (t.l.length : Int)] 3)) w9 := (Kept.of_grown hg).mono (fun k e => .inl e)
  have hl9 := hk9.blk h1.blk (fun e => h1.bx z e rfl)
  have HCELL : Hid ((∃ u, w9.cell? ⟨z, 1, none⟩ = some u) ∧ w9.frozen? ⟨z, 1, none⟩ = false) := hide ⟨⟨_, hl9.cell 1 _ rfl⟩, hl9.frozen 1⟩
  obtain ⟨hp3, hk3, hn3⟩ := h1.sSet hk9 hr (fun k e => by
    rcases hv with hv | hv
    · exact .inl (hv ▸ e)
    · rw [hv] at e
      exact .inr (by have := Option.some.inj e; omega))
  have hs1 := hbel.size
  obtain ⟨Bn, cn2, en⟩ := hr.form
  rw [List.length_append, List.length_singleton] at en
  subst en
  have HQ1 : Hid ((w9.setCell ⟨z, 1, none⟩ (.slice Bn (t.sv.length + 1) cn2)).cell? ⟨z, 1, none⟩ = some (.slice Bn (t.sv.length + 1) cn2)) := hide hp3.cells.2.2
  have HQQ : Hid (TxQ layM w (w9.setCell ⟨z, 1, none⟩ (.slice Bn (t.sv.length + 1) cn2)) z (.slice Aa t.l.length c) (.slice Bb t.sv.length cb2) ⟨t.l, t.ops, t.sv ++ [t.l.length]⟩) := hide ⟨(Kept.of_below hbel).trans hk3 (fun k hk => .inl hk), .slice Aa t.l.length c, .slice Bn (t.sv.length + 1) cn2, hp3, fun k hk => (hn3 k hk).imp id (fun h => Nat.le_trans hs1 h)⟩
  obtain ⟨e1, e2⟩ := save_few (t := t) rfl hsf
  have hs9 := HBK.out _ _ HQQ.out
  have HG := hide (ow_getn hs9 (i := 0) rfl (j := n) (v := .pointer (some ⟨x, 0, none⟩)) (by rw [hRn]; rfl))
  have HSV : Hid (Calls Try.prog 15 #[.pointer (some ⟨x, 0, none⟩)] (w9.setCell ⟨z, 1, none⟩ (.slice Bn (t.sv.length + 1) cn2)) fun e W' => e = .returned (.int .i64 ((t.sv.length : Int) + 1)) ∧ Ow w0 (fun _ => False) W' [Res.tt g (updT R n (some (x, ⟨t.l, t.ops, t.sv ++ [t.l.length]⟩))), Res.tab layM 29 mb (updT M n (some (z, ⟨t.l, t.ops, t.sv ++ [t.l.length]⟩))), Res.blk cb 33 #[.int .i64 ck, .int .i64 cn, .int .i64 ca, .int .i64 pg, .int .i64 sl, .string bf]]) := hide (by
    have h9 := ow_save hs9 (i := 0) rfl hRn
    rw [e1, e2] at h9
    exact h9)
  have hfew := h.few n x t hRn
  have HFE := hide hfew
  clear hrun hr hg hv hk9 hl9 hp3 hk3 hn3 hs1 hbel h1 htz hback e1 e2 hs9 h hq hn hRn hMn hsf hfew
  go_upto_region 48 with (fail)
  clear s0
  refine region_phases (valV [some (.pointer (some ⟨z, 0, none⟩)), some (.pointer (some ⟨z, 0, none⟩)), some (.pointer (some ⟨z, 0, none⟩)), some (.pointer (some ⟨z, 1, none⟩)), some (.slice Bb t.sv.length cb2), some (.pointer (some ⟨z, 0, none⟩)), some (.pointer (some ⟨z, 0, none⟩)), some (.pointer (some ⟨z, 0, none⟩)), some (.slice Aa t.l.length c), some (.int .i64 (t.l.length : Int)), some (.slice (some ⟨w.heap.size, 0, none⟩) 1 1), some (.slice Bn (t.sv.length + 1) cn2), some (.pointer (some ⟨z, 0, none⟩)), some (.pointer (some ⟨z, 1, none⟩)), none]) (phased [⟨14, 13, fun _ w2 => w2 = (w9.setCell ⟨z, 1, none⟩ (.slice Bn (t.sv.length + 1) cn2))⟩, ⟨11, 11, fun _ w2 => w2 = w9⟩, ⟨10, 10, fun _ w2 => w2 = (w.drew.alloc (.cells #[.int .i64 (t.l.length : Int)] 3))⟩] (fun w2 => w2 = w.drew)) (by kernel_rfl) (by kernel_rfl) (by kernel_rfl) (by kernel_rfl) (phased_ext (by kernel_rfl)) (rfl) ?_ ?_
  · intro i o ho L a w2 hph hsz hLi hnot hyes old dep
    match i, ho with
    | 0, ho =>
      obtain rfl := Option.some.inj ho
      rw [if_pos (wanted_none rfl)]
      have o8 := old 8 (by kernel_rfl)
      refine wp_yields (v := .pointer (some ⟨z, 0, none⟩)) (w' := w2) ?_ (fun u hu => Option.some.inj (Option.some.inj hu)) (phased_quiet hLi (by rfl) hph)
      clear dep old ho hsz hph hnot hyes hLi
      go_simp
    | 1, ho =>
      obtain rfl := Option.some.inj ho
      rw [if_pos (wanted_none rfl)]
      have o8 := old 8 (by kernel_rfl)
      refine wp_yields (v := .pointer (some ⟨z, 0, none⟩)) (w' := w2) ?_ (fun u hu => Option.some.inj (Option.some.inj hu)) (phased_quiet hLi (by rfl) hph)
      clear dep old ho hsz hph hnot hyes hLi
      go_simp
    | 2, ho =>
      obtain rfl := Option.some.inj ho
      rw [if_pos (wanted_none rfl)]
      have d1 : a.tmps.getD 217 undef = .pointer (some ⟨z, 0, none⟩) := dep 1 _ _ (by kernel_rfl) rfl rfl _ rfl
      have e1 : a.tmps[217]?.getD undef = .pointer (some ⟨z, 0, none⟩) := (Array.getD_eq_getD_getElem? ..).symm.trans d1
      refine wp_yields (v := .pointer (some ⟨z, 0, none⟩)) (w' := w2) ?_ (fun u hu => Option.some.inj (Option.some.inj hu)) (phased_quiet hLi (by rfl) hph)
      clear dep old ho hsz hph hnot hyes hLi
      go_simp
    | 3, ho =>
      obtain rfl := Option.some.inj ho
      rw [if_pos (wanted_none rfl)]
      have d2 : a.tmps.getD 218 undef = .pointer (some ⟨z, 0, none⟩) := dep 2 _ _ (by kernel_rfl) rfl rfl _ rfl
      have e2 : a.tmps[218]?.getD undef = .pointer (some ⟨z, 0, none⟩) := (Array.getD_eq_getD_getElem? ..).symm.trans d2
      refine wp_yields (v := .pointer (some ⟨z, 1, none⟩)) (w' := w2) ?_ (fun u hu => Option.some.inj (Option.some.inj hu)) (phased_quiet hLi (by rfl) hph)
      clear dep old ho hsz hph hnot hyes hLi
      go_simp
    | 4, ho =>
      obtain rfl := Option.some.inj ho
      rw [if_pos (wanted_none rfl)]
      have d3 : a.tmps.getD 219 undef = .pointer (some ⟨z, 1, none⟩) := dep 3 _ _ (by kernel_rfl) rfl rfl _ rfl
      have e3 : a.tmps[219]?.getD undef = .pointer (some ⟨z, 1, none⟩) := (Array.getD_eq_getD_getElem? ..).symm.trans d3
      have hph2 := hph
      unfold phased at hph2
      rw [if_neg (by rw [hnot 14 (by kernel_rfl)]; decide)] at hph2
      unfold phased at hph2
      rw [if_neg (by rw [hnot 11 (by kernel_rfl)]; decide)] at hph2
      have hB : Below w.heap.size w w2 := phased_all (R := fun w2 => Below w.heap.size w w2) (fun p hp v w2 h => by simp only [List.mem_cons, List.not_mem_nil, or_false] at hp; rcases hp with rfl; rw [show w2 = _ from h]; exact (Below.refl _ _).drew.alloc (by simp) _) (fun w2 h => by rw [h]; exact (Below.refl _ _).drew) hph2
      clear hph2
      have c0 : w2.cell? ⟨z, 1, none⟩ = _ := (HT0.out.below hB).cells.2.2
      refine wp_yields (v := .slice Bb t.sv.length cb2) (w' := w2) ?_ (fun u hu => Option.some.inj (Option.some.inj hu)) (phased_quiet hLi (by rfl) hph)
      clear dep old ho hsz hph hnot hyes hLi
      clear hB
      go_simp
    | 5, ho =>
      obtain rfl := Option.some.inj ho
      rw [if_pos (wanted_none rfl)]
      have o8 := old 8 (by kernel_rfl)
      refine wp_yields (v := .pointer (some ⟨z, 0, none⟩)) (w' := w2) ?_ (fun u hu => Option.some.inj (Option.some.inj hu)) (phased_quiet hLi (by rfl) hph)
      clear dep old ho hsz hph hnot hyes hLi
      go_simp
    | 6, ho =>
      obtain rfl := Option.some.inj ho
      rw [if_pos (wanted_none rfl)]
      have d5 : a.tmps.getD 221 undef = .pointer (some ⟨z, 0, none⟩) := dep 5 _ _ (by kernel_rfl) rfl rfl _ rfl
      have e5 : a.tmps[221]?.getD undef = .pointer (some ⟨z, 0, none⟩) := (Array.getD_eq_getD_getElem? ..).symm.trans d5
      refine wp_yields (v := .pointer (some ⟨z, 0, none⟩)) (w' := w2) ?_ (fun u hu => Option.some.inj (Option.some.inj hu)) (phased_quiet hLi (by rfl) hph)
      clear dep old ho hsz hph hnot hyes hLi
      go_simp
    | 7, ho =>
      obtain rfl := Option.some.inj ho
      rw [if_pos (wanted_none rfl)]
      have d6 : a.tmps.getD 222 undef = .pointer (some ⟨z, 0, none⟩) := dep 6 _ _ (by kernel_rfl) rfl rfl _ rfl
      have e6 : a.tmps[222]?.getD undef = .pointer (some ⟨z, 0, none⟩) := (Array.getD_eq_getD_getElem? ..).symm.trans d6
      refine wp_yields (v := .pointer (some ⟨z, 0, none⟩)) (w' := w2) ?_ (fun u hu => Option.some.inj (Option.some.inj hu)) (phased_quiet hLi (by rfl) hph)
      clear dep old ho hsz hph hnot hyes hLi
      go_simp
    | 8, ho =>
      obtain rfl := Option.some.inj ho
      rw [if_pos (wanted_none rfl)]
      have d7 : a.tmps.getD 223 undef = .pointer (some ⟨z, 0, none⟩) := dep 7 _ _ (by kernel_rfl) rfl rfl _ rfl
      have e7 : a.tmps[223]?.getD undef = .pointer (some ⟨z, 0, none⟩) := (Array.getD_eq_getD_getElem? ..).symm.trans d7
      have hph2 := hph
      unfold phased at hph2
      rw [if_neg (by rw [hnot 14 (by kernel_rfl)]; decide)] at hph2
      unfold phased at hph2
      rw [if_neg (by rw [hnot 11 (by kernel_rfl)]; decide)] at hph2
      have hB : Below w.heap.size w w2 := phased_all (R := fun w2 => Below w.heap.size w w2) (fun p hp v w2 h => by simp only [List.mem_cons, List.not_mem_nil, or_false] at hp; rcases hp with rfl; rw [show w2 = _ from h]; exact (Below.refl _ _).drew.alloc (by simp) _) (fun w2 h => by rw [h]; exact (Below.refl _ _).drew) hph2
      clear hph2
      have c0 := (HT0.out.below hB).cells.1
      refine wp_yields (v := .slice Aa t.l.length c) (w' := w2) ?_ (fun u hu => Option.some.inj (Option.some.inj hu)) (phased_quiet hLi (by rfl) hph)
      clear dep old ho hsz hph hnot hyes hLi
      clear hB
      go_simp
    | 9, ho =>
      obtain rfl := Option.some.inj ho
      rw [if_pos (wanted_none rfl)]
      have d8 : a.tmps.getD 224 undef = .slice Aa t.l.length c := dep 8 _ _ (by kernel_rfl) rfl rfl _ rfl
      have e8 : a.tmps[224]?.getD undef = .slice Aa t.l.length c := (Array.getD_eq_getD_getElem? ..).symm.trans d8
      refine wp_yields (v := .int .i64 (t.l.length : Int)) (w' := w2) ?_ (fun u hu => Option.some.inj (Option.some.inj hu)) (phased_quiet hLi (by rfl) hph)
      clear dep old ho hsz hph hnot hyes hLi
      go_simp
    | 10, ho =>
      obtain rfl := Option.some.inj ho
      rw [if_pos (wanted_none rfl)]
      have d9 : a.tmps.getD 225 undef = .int .i64 (t.l.length : Int) := dep 9 _ _ (by kernel_rfl) rfl rfl _ rfl
      have e9 : a.tmps[225]?.getD undef = .int .i64 (t.l.length : Int) := (Array.getD_eq_getD_getElem? ..).symm.trans d9
      unfold phased at hph
      rw [if_neg (by rw [hnot 14 (by kernel_rfl)]; decide)] at hph
      unfold phased at hph
      rw [if_neg (by rw [hnot 11 (by kernel_rfl)]; decide)] at hph
      unfold phased at hph
      rw [if_neg (by rw [hLi]; decide)] at hph
      unfold phased at hph
      obtain rfl : w2 = w.drew := hph
      refine wp_yields (v := .slice (some ⟨w.heap.size, 0, none⟩) 1 1) (w' := (w.drew.alloc (.cells #[.int .i64 (t.l.length : Int)] 3))) ?_ (fun u hu => Option.some.inj (Option.some.inj hu)) ?_
      · clear dep old ho hsz hnot hyes hLi
        go_simp
      · unfold phased
        rw [if_neg (by simp [also, hnot 14 (by kernel_rfl)])]
        unfold phased
        rw [if_neg (by simp [also, hnot 11 (by kernel_rfl)])]
        unfold phased
        rw [if_pos (by simp [also])]
        exact ⟨by simp [also], rfl⟩
    | 11, ho =>
      obtain rfl := Option.some.inj ho
      rw [if_pos (wanted_none rfl)]
      have d4 : a.tmps.getD 220 undef = .slice Bb t.sv.length cb2 := dep 4 _ _ (by kernel_rfl) rfl rfl _ rfl
      have e4 : a.tmps[220]?.getD undef = .slice Bb t.sv.length cb2 := (Array.getD_eq_getD_getElem? ..).symm.trans d4
      have d10 : a.tmps.getD 226 undef = .slice (some ⟨w.heap.size, 0, none⟩) 1 1 := dep 10 _ _ (by kernel_rfl) rfl rfl _ rfl
      have e10 : a.tmps[226]?.getD undef = .slice (some ⟨w.heap.size, 0, none⟩) 1 1 := (Array.getD_eq_getD_getElem? ..).symm.trans d10
      unfold phased at hph
      rw [if_neg (by rw [hnot 14 (by kernel_rfl)]; decide)] at hph
      unfold phased at hph
      rw [if_neg (by rw [hLi]; decide)] at hph
      unfold phased at hph
      rw [if_pos (hyes 10 (by kernel_rfl))] at hph
      obtain rfl : w2 = (w.drew.alloc (.cells #[.int .i64 (t.l.length : Int)] 3)) := hph.2
      have hr := HRUN.out
      refine wp_yields (v := .slice Bn (t.sv.length + 1) cn2) (w' := w9) (exec_append_run (.tmp 220) (.tmp 226) _ rfl d4 d10 hr) (fun u hu => Option.some.inj (Option.some.inj hu)) ?_
      unfold phased
      rw [if_neg (by simp [also, hnot 14 (by kernel_rfl)])]
      unfold phased
      rw [if_pos (by simp [also])]
      exact ⟨by simp [also], rfl⟩
    | 12, ho =>
      obtain rfl := Option.some.inj ho
      rw [if_pos (wanted_none rfl)]
      have d0 : a.tmps.getD 216 undef = .pointer (some ⟨z, 0, none⟩) := dep 0 _ _ (by kernel_rfl) rfl rfl _ rfl
      have e0 : a.tmps[216]?.getD undef = .pointer (some ⟨z, 0, none⟩) := (Array.getD_eq_getD_getElem? ..).symm.trans d0
      refine wp_yields (v := .pointer (some ⟨z, 0, none⟩)) (w' := w2) ?_ (fun u hu => Option.some.inj (Option.some.inj hu)) (phased_quiet hLi (by rfl) hph)
      clear dep old ho hsz hph hnot hyes hLi
      go_simp
    | 13, ho =>
      obtain rfl := Option.some.inj ho
      rw [if_pos (wanted_none rfl)]
      have d12 : a.tmps.getD 228 undef = .pointer (some ⟨z, 0, none⟩) := dep 12 _ _ (by kernel_rfl) rfl rfl _ rfl
      have e12 : a.tmps[228]?.getD undef = .pointer (some ⟨z, 0, none⟩) := (Array.getD_eq_getD_getElem? ..).symm.trans d12
      refine wp_yields (v := .pointer (some ⟨z, 1, none⟩)) (w' := w2) ?_ (fun u hu => Option.some.inj (Option.some.inj hu)) (phased_quiet hLi (by rfl) hph)
      clear dep old ho hsz hph hnot hyes hLi
      go_simp
    | 14, ho =>
      obtain rfl := Option.some.inj ho
      rw [if_pos (wanted_none rfl)]
      have d11 : a.tmps.getD 227 undef = .slice Bn (t.sv.length + 1) cn2 := dep 11 _ _ (by kernel_rfl) rfl rfl _ rfl
      have e11 : a.tmps[227]?.getD undef = .slice Bn (t.sv.length + 1) cn2 := (Array.getD_eq_getD_getElem? ..).symm.trans d11
      have d13 : a.tmps.getD 229 undef = .pointer (some ⟨z, 1, none⟩) := dep 13 _ _ (by kernel_rfl) rfl rfl _ rfl
      have e13 : a.tmps[229]?.getD undef = .pointer (some ⟨z, 1, none⟩) := (Array.getD_eq_getD_getElem? ..).symm.trans d13
      unfold phased at hph
      rw [if_neg (by rw [hLi]; decide)] at hph
      unfold phased at hph
      rw [if_pos (hyes 11 (by kernel_rfl))] at hph
      obtain rfl : w9 = w2 := hph.2.symm
      obtain ⟨⟨u0, hc0⟩, hf0⟩ := HCELL.out
      refine wp_skips (w' := (w9.setCell ⟨z, 1, none⟩ (.slice Bn (t.sv.length + 1) cn2))) ?_ (fun u hu => by cases Option.some.inj hu) ?_
      · clear dep old ho hsz hnot hyes hLi hph
        go_simp
      · unfold phased
        rw [if_pos (by simp [also])]
        exact ⟨by simp [also, hyes 13 (by kernel_rfl)], rfl⟩
    | i + 15, ho => exact absurd ho (by simp)
  · intro a w4 hph hsz hdf fin keep
    obtain ⟨tm, df⟩ := a
    have hx := frame_of [216, 217, 218, 219, 220, 221, 222, 223, 224, 225, 226, 227, 228, 229] (by kernel_rfl) hsz keep
    dsimp only at hdf hx
    simp only [List.foldl_cons, List.foldl_nil] at hx
    subst hdf
    clear hsz keep
    have kn : tm.getD 216 undef = .pointer (some ⟨z, 0, none⟩) := fin 0 _ _ rfl rfl _ rfl
    rw [kn] at hx
    clear kn
    have kn : tm.getD 217 undef = .pointer (some ⟨z, 0, none⟩) := fin 1 _ _ rfl rfl _ rfl
    rw [kn] at hx
    clear kn
    have kn : tm.getD 218 undef = .pointer (some ⟨z, 0, none⟩) := fin 2 _ _ rfl rfl _ rfl
    rw [kn] at hx
    clear kn
    have kn : tm.getD 219 undef = .pointer (some ⟨z, 1, none⟩) := fin 3 _ _ rfl rfl _ rfl
    rw [kn] at hx
    clear kn
    have kn : tm.getD 220 undef = .slice Bb t.sv.length cb2 := fin 4 _ _ rfl rfl _ rfl
    rw [kn] at hx
    clear kn
    have kn : tm.getD 221 undef = .pointer (some ⟨z, 0, none⟩) := fin 5 _ _ rfl rfl _ rfl
    rw [kn] at hx
    clear kn
    have kn : tm.getD 222 undef = .pointer (some ⟨z, 0, none⟩) := fin 6 _ _ rfl rfl _ rfl
    rw [kn] at hx
    clear kn
    have kn : tm.getD 223 undef = .pointer (some ⟨z, 0, none⟩) := fin 7 _ _ rfl rfl _ rfl
    rw [kn] at hx
    clear kn
    have kn : tm.getD 224 undef = .slice Aa t.l.length c := fin 8 _ _ rfl rfl _ rfl
    rw [kn] at hx
    clear kn
    have kn : tm.getD 225 undef = .int .i64 (t.l.length : Int) := fin 9 _ _ rfl rfl _ rfl
    rw [kn] at hx
    clear kn
    have kn : tm.getD 226 undef = .slice (some ⟨w.heap.size, 0, none⟩) 1 1 := fin 10 _ _ rfl rfl _ rfl
    rw [kn] at hx
    clear kn
    have kn : tm.getD 227 undef = .slice Bn (t.sv.length + 1) cn2 := fin 11 _ _ rfl rfl _ rfl
    rw [kn] at hx
    clear kn
    have kn : tm.getD 228 undef = .pointer (some ⟨z, 0, none⟩) := fin 12 _ _ rfl rfl _ rfl
    rw [kn] at hx
    clear kn
    have kn : tm.getD 229 undef = .pointer (some ⟨z, 1, none⟩) := fin 13 _ _ rfl rfl _ rfl
    rw [kn] at hx
    clear kn
    clear fin
    simp only [List.setIfInBounds_toArray, List.set_cons_succ, List.set_cons_zero] at hx
    subst hx
    unfold phased at hph
    rw [if_pos rfl] at hph
    obtain ⟨_, hph⟩ := hph
    obtain rfl := hph
    have c1 := HQ1.out
    go_wp2_with (first
      | (go_at_call 12; (with_reducible refine HG.out.mono ?_); rintro e w3 ⟨rfl, rfl⟩)
      | (go_at_call 15; (with_reducible refine HSV.out.mono ?_); rintro e w4 ⟨rfl, hs⟩; have HE := hide hs; clear hs))
    exact HK.out _ _ _ _ _ _ _ _ _ _ _ _ _ _ _ _ _ _ _ _ _ _ _ _ _ _ _ _ _ _ _ _ _ _ _ _ _ _ _ _ _ _ _ _ _ _ _ _ _ _ _ _ _ _ _ _ _ _ _ _ _ _ _ _ _ _ _ _ _ _ _ _ _ _ _ _ _ _ _ _ _ _ _ _ _ _ _ _ _ _ _ _ _ _ _ _ _ _ _ _ _ _ _ _ _ _ _ _ _ _ _ _ _ _ _ _ _ _ _ _ _ _ _ _ _ _ _ _ _ _ _ _ _ _ _ _ _ _ _ _ _ _ _ _ _ _ _ _ _ _ _ _ _ _ _ _ _ _ _ _ _ _ _ _ _ _ _ _ _ _ _ _ _ _ _ _ _ _ _ _ _ _ _ _ _ _ _ _ _ _ _ _ _ _ _ _ _ _ _ _ _ _ _ _ _ _ _ (H.out.both (by have := HFE.out; show t.l.length ≤ _ ∧ t.ops ≤ _; omega) HE.out)
end Go.Proofs.Ytkegfedbffhnfaa
