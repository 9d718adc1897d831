/-
  TransRuns' walk: Push.
-/
import Derived.Test.YtkegfedbffhnfaaSub11
namespace Go.Proofs.Ytkegfedbffhnfaa
open Go.RowKit
set_option maxRecDepth 100000
set_option linter.unusedSimpArgs false
set_option linter.unusedVariables false

theorem get_say {A0 W : World} {F0 : Nat → Prop} {L : List Res} {i g j : Nat} {T : Tb} {v : Value} (h : Ow A0 F0 W L) (hi : L[i]? = some (Res.tt g T)) (hv : pv (T j) = v) (W2 : World) (hb : Below W.heap.size W W2) : Calls Try.prog 12 #[.pointer (some ⟨g, 0, none⟩), .int .i64 (j : Int)] W2 fun e w' => ∃ u, e = .returned u ∧ (Say.is v).p w' u ∧ Below W2.heap.size W2 w' :=
  (ow_getn (h.below hb) hi hv).mono (fun e w' ⟨h1, h2⟩ => ⟨_, h1, rfl, by rw [← h2]; exact Below.refl _ _⟩)
set_option maxHeartbeats 16000000 in
theorem rk2n {w0 w : World} {g mb cb n q : Nat} {R M : Tb} {ck cn ca pg sl : Int} {bf : ByteArray} {u0 u1 u2 u5 u9 u10 u11 u12 u13 u14 u15 u16 u17 u18 u19 u20 u21 u22 u23 u24 u25 u26 u27 u28 u29 u30 u31 u32 u33 u34 u35 u36 u37 u38 u39 u40 u41 u43 u44 u45 u46 u47 u48 u49 u50 u51 u52 u53 u54 u55 u56 u57 u58 u59 u60 u61 u62 u63 u64 u65 u66 u67 u68 u69 u70 u71 u72 u73 u74 u75 u76 u77 u78 u79 u80 u81 u82 u83 u84 u85 u86 u87 u88 u89 u90 u91 u92 u93 u94 u95 u96 u97 u98 u99 u100 u101 u102 u103 u104 u105 u106 u107 u108 u109 u110 u111 u112 u113 u114 u115 u116 u117 u118 u119 u120 u121 u122 u123 u124 u125 u126 u127 u128 u129 u130 u131 u132 u133 u134 u135 u136 u137 u138 u139 u140 u141 u142 u143 u144 u145 u146 u147 u148 u149 u150 u151 u152 u153 u154 u155 u156 u157 u158 u159 u160 u161 u162 u163 u164 u165 u166 u167 u168 u169 u170 u171 u172 u173 u174 u175 u176 u177 u178 u179 u180 u181 u182 u183 u184 u185 u186 u187 u188 u189 u190 u191 u192 u193 u194 u195 u196 u197 u198 u199 u200 u201 u202 u203 u204 u205 u206 u207 u208 u209 u210 u211 u212 u213 u214 u215 u216 u217 u218 u219 u220 u221 u222 u223 u224 u225 u226 u227 u228 u229 u230 u231 u232 u233 u234 u235 u236 u237 u238 u239 u240 u241 u242 u243 : Value} (h : RunS w0 w g mb cb #[.int .i64 ck, .int .i64 cn, .int .i64 ca, .int .i64 pg, .int .i64 sl, .string bf] R M q) (hq : q ≤ 300) (hn : n < 4) (hRn : R n = none) {Q : Exit → Act → World → Prop}
    (hK : ∀ (v9 v10 v11 v12 v13 v14 v15 v43 v44 v45 v46 v47 v48 v49 v50 v51 v52 v53 v54 v55 v56 v57 v58 v59 v60 v61 v62 v63 v64 v65 v66 v67 v68 v69 v70 v71 v72 v73 v74 v75 v76 v77 v78 v79 v80 v81 v82 v83 v84 v85 v86 v87 v88 v89 v90 v91 v92 v93 v94 v95 v96 v97 v98 v99 v100 v101 v102 v103 v104 v105 v106 v107 v108 v109 v110 v111 v112 v113 v114 v115 v116 v117 v118 v119 v120 v121 v122 v123 v124 v125 v126 v127 v128 v129 v130 v131 v132 v133 v134 v135 v136 v137 v138 v139 v140 v141 v142 v143 v144 v145 v146 v147 v148 v149 v150 v151 v152 v153 v154 v155 v156 v157 v158 v159 v160 v161 v162 v163 v164 v165 v166 v167 v168 v169 v170 v171 v172 v173 v174 v175 v176 v177 v178 v179 v180 v181 v182 v183 v184 v185 v186 v187 v188 v189 v190 v191 v192 v193 v194 v195 v196 v197 v198 v199 v200 v201 v202 v203 v204 v205 v206 v207 v208 v209 v210 v211 v212 v213 v214 v215 v216 v217 v218 v219 v220 v221 v222 v223 v224 v225 v226 v227 v228 v229 v230 v231 v232 v233 v234 v235 v236 v237 v238 v239 : Value) (w' : World) (R' M' : Tb), RunS w0 w' g mb cb #[.int .i64 ck, .int .i64 cn, .int .i64 ca, .int .i64 pg, .int .i64 sl, .string bf] R' M' (q + 1) → Q .normal ⟨#[u0, u1, u2, .pointer (some ⟨g, 0, none⟩), .pointer (some ⟨mb, 0, none⟩), u5, .pointer (some ⟨cb, 0, none⟩), .int .i64 (n : Int), .pointer none, v9, v10, v11, v12, v13, v14, v15, u16, u17, u18, u19, u20, u21, u22, u23, u24, u25, u26, u27, u28, u29, u30, u31, u32, u33, u34, u35, u36, u37, u38, u39, u40, u41, .int .i64 2, v43, v44, v45, v46, v47, v48, v49, v50, v51, v52, v53, v54, v55, v56, v57, v58, v59, v60, v61, v62, v63, v64, v65, v66, v67, v68, v69, v70, v71, v72, v73, v74, v75, v76, v77, v78, v79, v80, v81, v82, v83, v84, v85, v86, v87, v88, v89, v90, v91, v92, v93, v94, v95, v96, v97, v98, v99, v100, v101, v102, v103, v104, v105, v106, v107, v108, v109, v110, v111, v112, v113, v114, v115, v116, v117, v118, v119, v120, v121, v122, v123, v124, v125, v126, v127, v128, v129, v130, v131, v132, v133, v134, v135, v136, v137, v138, v139, v140, v141, v142, v143, v144, v145, v146, v147, v148, v149, v150, v151, v152, v153, v154, v155, v156, v157, v158, v159, v160, v161, v162, v163, v164, v165, v166, v167, v168, v169, v170, v171, v172, v173, v174, v175, v176, v177, v178, v179, v180, v181, v182, v183, v184, v185, v186, v187, v188, v189, v190, v191, v192, v193, v194, v195, v196, v197, v198, v199, v200, v201, v202, v203, v204, v205, v206, v207, v208, v209, v210, v211, v212, v213, v214, v215, v216, v217, v218, v219, v220, v221, v222, v223, v224, v225, v226, v227, v228, v229, v230, v231, v232, v233, v234, v235, v236, v237, v238, v239, u240, u241, u242, u243], []⟩ w') :
    Code.wp Try.prog (subC (Try.f3.body.getD .skip) [1,1,1,1,1,0,1,0,0,1,1,0,0,1,1,1,1,0,1]) Q ⟨#[u0, u1, u2, .pointer (some ⟨g, 0, none⟩), .pointer (some ⟨mb, 0, none⟩), u5, .pointer (some ⟨cb, 0, none⟩), .int .i64 (n : Int), .pointer none, u9, u10, u11, u12, u13, u14, u15, u16, u17, u18, u19, u20, u21, u22, u23, u24, u25, u26, u27, u28, u29, u30, u31, u32, u33, u34, u35, u36, u37, u38, u39, u40, u41, .int .i64 2, u43, u44, u45, u46, u47, u48, u49, u50, u51, u52, u53, u54, u55, u56, u57, u58, u59, u60, u61, u62, u63, u64, u65, u66, u67, u68, u69, u70, u71, u72, u73, u74, u75, u76, u77, u78, u79, u80, u81, u82, u83, u84, u85, u86, u87, u88, u89, u90, u91, u92, u93, u94, u95, u96, u97, u98, u99, u100, u101, u102, u103, u104, u105, u106, u107, u108, u109, u110, u111, u112, u113, u114, u115, u116, u117, u118, u119, u120, u121, u122, u123, u124, u125, u126, u127, u128, u129, u130, u131, u132, u133, u134, u135, u136, u137, u138, u139, u140, u141, u142, u143, u144, u145, u146, u147, u148, u149, u150, u151, u152, u153, u154, u155, u156, u157, u158, u159, u160, u161, u162, u163, u164, u165, u166, u167, u168, u169, u170, u171, u172, u173, u174, u175, u176, u177, u178, u179, u180, u181, u182, u183, u184, u185, u186, u187, u188, u189, u190, u191, u192, u193, u194, u195, u196, u197, u198, u199, u200, u201, u202, u203, u204, u205, u206, u207, u208, u209, u210, u211, u212, u213, u214, u215, u216, u217, u218, u219, u220, u221, u222, u223, u224, u225, u226, u227, u228, u229, u230, u231, u232, u233, u234, u235, u236, u237, u238, u239, u240, u241, u242, u243], []⟩ w := by
  conv => arg 2; whnf
  have HK := hide hK
  clear hK
  have HS := hide h.ow
  have H := hide h
  have HQ : Hid (q ≤ 300) := hide hq
  have HGV : Hid (pv (R n) = .pointer none) := hide (by rw [hRn]; rfl)
  clear h hq hn hRn
  go_upto_region 35 with (fail)
  refine region_last 4 129 [Say.is (.int .i64 (n : Int)), Say.is (.pointer none), Say.is (.pointer (some ⟨cb, 3, none⟩)), Say.is (.agg #[.int .i64 pg, .int .i64 sl, .string bf])] (fun v w' => v = .tuple #[] ∧ Ow w0 (fun _ => False) w' [Res.tt g (R), Res.tab layM 29 mb (M), Res.blk cb 33 #[.int .i64 ck, .int .i64 cn, .int .i64 ca, .int .i64 pg, .int .i64 sl, .string bf]]) rfl rfl rfl (by kernel_rfl) (by kernel_rfl) (by kernel_rfl) (by kernel_rfl) (by kernel_rfl) ?_ ?_ ?_ ?_
  · intro i o hik ho a w2 hb hsz old dep
    match i, ho with
    | 0, ho =>
      obtain rfl := Option.some.inj ho
      have o7 : a.tmps.getD 7 undef = _ := old 7 (by kernel_rfl)
      rw [if_pos (wanted_none rfl)]
      refine grow_same (v := .int .i64 (n : Int)) ?_ rfl
      clear old dep ho hsz hb
      go_simp
    | 1, ho =>
      obtain rfl := Option.some.inj ho
      have o3 : a.tmps.getD 3 undef = _ := old 3 (by kernel_rfl)
      have d0 : a.tmps.getD 125 undef = .int .i64 (n : Int) := dep 0 _ _ (by kernel_rfl) rfl rfl
      have e0 : a.tmps[125]?.getD undef = _ := (Array.getD_eq_getD_getElem? ..).symm.trans d0
      rw [if_pos (wanted_none rfl)]
      refine grow_enters (f := 12) (args := #[.pointer (some ⟨g, 0, none⟩), .int .i64 (n : Int)]) ?_ (get_say HS.out (i := 0) rfl HGV.out _ hb)
      clear old dep ho hsz hb
      go_simp
    | 2, ho =>
      obtain rfl := Option.some.inj ho
      have o6 : a.tmps.getD 6 undef = _ := old 6 (by kernel_rfl)
      rw [if_pos (wanted_none rfl)]
      refine grow_same (v := .pointer (some ⟨cb, 3, none⟩)) ?_ rfl
      clear old dep ho hsz hb
      go_simp
    | 3, ho =>
      obtain rfl := Option.some.inj ho
      have d2 : a.tmps.getD 127 undef = .pointer (some ⟨cb, 3, none⟩) := dep 2 _ _ (by kernel_rfl) rfl rfl
      have e2 : a.tmps[127]?.getD undef = _ := (Array.getD_eq_getD_getElem? ..).symm.trans d2
      rw [if_pos (wanted_none rfl)]
      have hx := (HS.out.below hb).blk (i := 2) rfl
      have c3 := hx.cell 3 _ rfl
      have c4 := hx.cell 4 _ rfl
      have c5 := hx.cell 5 _ rfl
      clear hx
      refine grow_same (v := .agg #[.int .i64 pg, .int .i64 sl, .string bf]) ?_ rfl
      clear old dep ho hsz hb
      go_simp
    | i + 4, ho => exact absurd hik (by omega)
  · intro a w2 hb hsz old dep
    have d1 : a.tmps.getD 126 undef = .pointer none := dep 1 _ _ (by kernel_rfl) rfl rfl
    have e1 : a.tmps[126]?.getD undef = _ := (Array.getD_eq_getD_getElem? ..).symm.trans d1
    have d3 : a.tmps.getD 128 undef = .agg #[.int .i64 pg, .int .i64 sl, .string bf] := dep 3 _ _ (by kernel_rfl) rfl rfl
    have e3 : a.tmps[128]?.getD undef = _ := (Array.getD_eq_getD_getElem? ..).symm.trans d3
    refine last_enters (f := 13) (args := #[.pointer none, .agg #[.int .i64 pg, .int .i64 sl, .string bf]]) ?_ ((push_nil ⟨pg, sl, bf⟩ _).mono (fun e w' ⟨h1, h2⟩ => ⟨_, h1, rfl, (HS.out.below hb).below h2⟩))
    clear old dep hsz hb
    go_simp
  · intro i o hki ho
    have hin : i < 5 := (Array.getElem?_eq_some_iff.1 ho).1
    exact absurd hki (by omega)
  · intro a w4 v hR hsz hdf hk fin keep
    obtain ⟨tm, df⟩ := a
    have hx := frame_of [125, 126, 127, 128, 129] (by kernel_rfl) hsz keep
    dsimp only at hdf hx hk
    simp only [List.foldl_cons, List.foldl_nil] at hx
    subst hdf
    clear hsz keep
    rw [hk] at hx
    clear hk
    generalize tm.getD 125 undef = y125 at hx
    generalize tm.getD 126 undef = y126 at hx
    generalize tm.getD 127 undef = y127 at hx
    generalize tm.getD 128 undef = y128 at hx
    clear fin
    simp only [List.setIfInBounds_toArray, List.set_cons_succ, List.set_cons_zero] at hx
    subst hx
    obtain ⟨rfl, hs4⟩ := hR
    have HE := hide hs4
    clear hs4
    go_wp2
    exact HK.out _ _ _ _ _ _ _ _ _ _ _ _ _ _ _ _ _ _ _ _ _ _ _ _ _ _ _ _ _ _ _ _ _ _ _ _ _ _ _ _ _ _ _ _ _ _ _ _ _ _ _ _ _ _ _ _ _ _ _ _ _ _ _ _ _ _ _ _ _ _ _ _ _ _ _ _ _ _ _ _ _ _ _ _ _ _ _ _ _ _ _ _ _ _ _ _ _ _ _ _ _ _ _ _ _ _ _ _ _ _ _ _ _ _ _ _ _ _ _ _ _ _ _ _ _ _ _ _ _ _ _ _ _ _ _ _ _ _ _ _ _ _ _ _ _ _ _ _ _ _ _ _ _ _ _ _ _ _ _ _ _ _ _ _ _ _ _ _ _ _ _ _ _ _ _ _ _ _ _ _ _ _ _ _ _ _ _ _ _ _ _ _ _ _ _ _ _ _ _ _ _ _ _ _ _ _ _ (H.out.next HE.out)
set_option maxHeartbeats 16000000 in
theorem rk2s {w0 w : World} {g mb cb n q : Nat} {R M : Tb} {ck cn ca pg sl : Int} {bf : ByteArray} {x z : Nat} {t : Tx} {u0 u1 u2 u5 u9 u10 u11 u12 u13 u14 u15 u16 u17 u18 u19 u20 u21 u22 u23 u24 u25 u26 u27 u28 u29 u30 u31 u32 u33 u34 u35 u36 u37 u38 u39 u40 u41 u43 u44 u45 u46 u47 u48 u49 u50 u51 u52 u53 u54 u55 u56 u57 u58 u59 u60 u61 u62 u63 u64 u65 u66 u67 u68 u69 u70 u71 u72 u73 u74 u75 u76 u77 u78 u79 u80 u81 u82 u83 u84 u85 u86 u87 u88 u89 u90 u91 u92 u93 u94 u95 u96 u97 u98 u99 u100 u101 u102 u103 u104 u105 u106 u107 u108 u109 u110 u111 u112 u113 u114 u115 u116 u117 u118 u119 u120 u121 u122 u123 u124 u125 u126 u127 u128 u129 u130 u131 u132 u133 u134 u135 u136 u137 u138 u139 u140 u141 u142 u143 u144 u145 u146 u147 u148 u149 u150 u151 u152 u153 u154 u155 u156 u157 u158 u159 u160 u161 u162 u163 u164 u165 u166 u167 u168 u169 u170 u171 u172 u173 u174 u175 u176 u177 u178 u179 u180 u181 u182 u183 u184 u185 u186 u187 u188 u189 u190 u191 u192 u193 u194 u195 u196 u197 u198 u199 u200 u201 u202 u203 u204 u205 u206 u207 u208 u209 u210 u211 u212 u213 u214 u215 u216 u217 u218 u219 u220 u221 u222 u223 u224 u225 u226 u227 u228 u229 u230 u231 u232 u233 u234 u235 u236 u237 u238 u239 u240 u241 u242 u243 : Value} (h : RunS w0 w g mb cb #[.int .i64 ck, .int .i64 cn, .int .i64 ca, .int .i64 pg, .int .i64 sl, .string bf] R M q) (hq : q ≤ 300) (hn : n < 4) (hRn : R n = some (x, t)) (hMn : M n = some (z, t)) {Q : Exit → Act → World → Prop}
    (hK : ∀ (v9 v10 v11 v12 v13 v14 v15 v43 v44 v45 v46 v47 v48 v49 v50 v51 v52 v53 v54 v55 v56 v57 v58 v59 v60 v61 v62 v63 v64 v65 v66 v67 v68 v69 v70 v71 v72 v73 v74 v75 v76 v77 v78 v79 v80 v81 v82 v83 v84 v85 v86 v87 v88 v89 v90 v91 v92 v93 v94 v95 v96 v97 v98 v99 v100 v101 v102 v103 v104 v105 v106 v107 v108 v109 v110 v111 v112 v113 v114 v115 v116 v117 v118 v119 v120 v121 v122 v123 v124 v125 v126 v127 v128 v129 v130 v131 v132 v133 v134 v135 v136 v137 v138 v139 v140 v141 v142 v143 v144 v145 v146 v147 v148 v149 v150 v151 v152 v153 v154 v155 v156 v157 v158 v159 v160 v161 v162 v163 v164 v165 v166 v167 v168 v169 v170 v171 v172 v173 v174 v175 v176 v177 v178 v179 v180 v181 v182 v183 v184 v185 v186 v187 v188 v189 v190 v191 v192 v193 v194 v195 v196 v197 v198 v199 v200 v201 v202 v203 v204 v205 v206 v207 v208 v209 v210 v211 v212 v213 v214 v215 v216 v217 v218 v219 v220 v221 v222 v223 v224 v225 v226 v227 v228 v229 v230 v231 v232 v233 v234 v235 v236 v237 v238 v239 : Value) (w' : World) (R' M' : Tb), RunS w0 w' g mb cb #[.int .i64 ck, .int .i64 cn, .int .i64 ca, .int .i64 pg, .int .i64 sl, .string bf] R' M' (q + 1) → Q .normal ⟨#[u0, u1, u2, .pointer (some ⟨g, 0, none⟩), .pointer (some ⟨mb, 0, none⟩), u5, .pointer (some ⟨cb, 0, none⟩), .int .i64 (n : Int), .pointer (some ⟨z, 0, none⟩), v9, v10, v11, v12, v13, v14, v15, u16, u17, u18, u19, u20, u21, u22, u23, u24, u25, u26, u27, u28, u29, u30, u31, u32, u33, u34, u35, u36, u37, u38, u39, u40, u41, .int .i64 2, v43, v44, v45, v46, v47, v48, v49, v50, v51, v52, v53, v54, v55, v56, v57, v58, v59, v60, v61, v62, v63, v64, v65, v66, v67, v68, v69, v70, v71, v72, v73, v74, v75, v76, v77, v78, v79, v80, v81, v82, v83, v84, v85, v86, v87, v88, v89, v90, v91, v92, v93, v94, v95, v96, v97, v98, v99, v100, v101, v102, v103, v104, v105, v106, v107, v108, v109, v110, v111, v112, v113, v114, v115, v116, v117, v118, v119, v120, v121, v122, v123, v124, v125, v126, v127, v128, v129, v130, v131, v132, v133, v134, v135, v136, v137, v138, v139, v140, v141, v142, v143, v144, v145, v146, v147, v148, v149, v150, v151, v152, v153, v154, v155, v156, v157, v158, v159, v160, v161, v162, v163, v164, v165, v166, v167, v168, v169, v170, v171, v172, v173, v174, v175, v176, v177, v178, v179, v180, v181, v182, v183, v184, v185, v186, v187, v188, v189, v190, v191, v192, v193, v194, v195, v196, v197, v198, v199, v200, v201, v202, v203, v204, v205, v206, v207, v208, v209, v210, v211, v212, v213, v214, v215, v216, v217, v218, v219, v220, v221, v222, v223, v224, v225, v226, v227, v228, v229, v230, v231, v232, v233, v234, v235, v236, v237, v238, v239, u240, u241, u242, u243], []⟩ w') :
    Code.wp Try.prog (subC (Try.f3.body.getD .skip) [1,1,1,1,1,0,1,0,0,1,1,0,0,1,1,1,1,0,1]) Q ⟨#[u0, u1, u2, .pointer (some ⟨g, 0, none⟩), .pointer (some ⟨mb, 0, none⟩), u5, .pointer (some ⟨cb, 0, none⟩), .int .i64 (n : Int), .pointer (some ⟨z, 0, none⟩), u9, u10, u11, u12, u13, u14, u15, u16, u17, u18, u19, u20, u21, u22, u23, u24, u25, u26, u27, u28, u29, u30, u31, u32, u33, u34, u35, u36, u37, u38, u39, u40, u41, .int .i64 2, u43, u44, u45, u46, u47, u48, u49, u50, u51, u52, u53, u54, u55, u56, u57, u58, u59, u60, u61, u62, u63, u64, u65, u66, u67, u68, u69, u70, u71, u72, u73, u74, u75, u76, u77, u78, u79, u80, u81, u82, u83, u84, u85, u86, u87, u88, u89, u90, u91, u92, u93, u94, u95, u96, u97, u98, u99, u100, u101, u102, u103, u104, u105, u106, u107, u108, u109, u110, u111, u112, u113, u114, u115, u116, u117, u118, u119, u120, u121, u122, u123, u124, u125, u126, u127, u128, u129, u130, u131, u132, u133, u134, u135, u136, u137, u138, u139, u140, u141, u142, u143, u144, u145, u146, u147, u148, u149, u150, u151, u152, u153, u154, u155, u156, u157, u158, u159, u160, u161, u162, u163, u164, u165, u166, u167, u168, u169, u170, u171, u172, u173, u174, u175, u176, u177, u178, u179, u180, u181, u182, u183, u184, u185, u186, u187, u188, u189, u190, u191, u192, u193, u194, u195, u196, u197, u198, u199, u200, u201, u202, u203, u204, u205, u206, u207, u208, u209, u210, u211, u212, u213, u214, u215, u216, u217, u218, u219, u220, u221, u222, u223, u224, u225, u226, u227, u228, u229, u230, u231, u232, u233, u234, u235, u236, u237, u238, u239, u240, u241, u242, u243], []⟩ w := by
  conv => arg 2; whnf
  have HK := hide hK
  clear hK
  have HS := hide h.ow
  have H := hide h
  have HQ : Hid (q ≤ 300) := hide hq
  have HGV : Hid (pv (R n) = .pointer (some ⟨x, 0, none⟩)) := hide (by rw [hRn]; rfl)
  have HRN := hide hRn
  have HMN := hide hMn
  have hfew := h.few n x t hRn
  have HFE := hide hfew
  clear h hq hn hRn hMn hfew
  go_upto_region 35 with (fail)
  refine region_last 4 129 [Say.is (.int .i64 (n : Int)), Say.is (.pointer (some ⟨x, 0, none⟩)), Say.is (.pointer (some ⟨cb, 3, none⟩)), Say.is (.agg #[.int .i64 pg, .int .i64 sl, .string bf])] (fun v w' => v = .tuple #[] ∧ Ow w0 (fun _ => False) w' [Res.tt g (updT R n (some (x, t.push ⟨pg, sl, bf⟩))), Res.tab layM 29 mb (M), Res.blk cb 33 #[.int .i64 ck, .int .i64 cn, .int .i64 ca, .int .i64 pg, .int .i64 sl, .string bf]]) rfl rfl rfl (by kernel_rfl) (by kernel_rfl) (by kernel_rfl) (by kernel_rfl) (by kernel_rfl) ?_ ?_ ?_ ?_
  · intro i o hik ho a w2 hb hsz old dep
    match i, ho with
    | 0, ho =>
      obtain rfl := Option.some.inj ho
      have o7 : a.tmps.getD 7 undef = _ := old 7 (by kernel_rfl)
      rw [if_pos (wanted_none rfl)]
      refine grow_same (v := .int .i64 (n : Int)) ?_ rfl
      clear old dep ho hsz hb
      go_simp
    | 1, ho =>
      obtain rfl := Option.some.inj ho
      have o3 : a.tmps.getD 3 undef = _ := old 3 (by kernel_rfl)
      have d0 : a.tmps.getD 125 undef = .int .i64 (n : Int) := dep 0 _ _ (by kernel_rfl) rfl rfl
      have e0 : a.tmps[125]?.getD undef = _ := (Array.getD_eq_getD_getElem? ..).symm.trans d0
      rw [if_pos (wanted_none rfl)]
      refine grow_enters (f := 12) (args := #[.pointer (some ⟨g, 0, none⟩), .int .i64 (n : Int)]) ?_ (get_say HS.out (i := 0) rfl HGV.out _ hb)
      clear old dep ho hsz hb
      go_simp
    | 2, ho =>
      obtain rfl := Option.some.inj ho
      have o6 : a.tmps.getD 6 undef = _ := old 6 (by kernel_rfl)
      rw [if_pos (wanted_none rfl)]
      refine grow_same (v := .pointer (some ⟨cb, 3, none⟩)) ?_ rfl
      clear old dep ho hsz hb
      go_simp
    | 3, ho =>
      obtain rfl := Option.some.inj ho
      have d2 : a.tmps.getD 127 undef = .pointer (some ⟨cb, 3, none⟩) := dep 2 _ _ (by kernel_rfl) rfl rfl
      have e2 : a.tmps[127]?.getD undef = _ := (Array.getD_eq_getD_getElem? ..).symm.trans d2
      rw [if_pos (wanted_none rfl)]
      have hx := (HS.out.below hb).blk (i := 2) rfl
      have c3 := hx.cell 3 _ rfl
      have c4 := hx.cell 4 _ rfl
      have c5 := hx.cell 5 _ rfl
      clear hx
      refine grow_same (v := .agg #[.int .i64 pg, .int .i64 sl, .string bf]) ?_ rfl
      clear old dep ho hsz hb
      go_simp
    | i + 4, ho => exact absurd hik (by omega)
  · intro a w2 hb hsz old dep
    have d1 : a.tmps.getD 126 undef = .pointer (some ⟨x, 0, none⟩) := dep 1 _ _ (by kernel_rfl) rfl rfl
    have e1 : a.tmps[126]?.getD undef = _ := (Array.getD_eq_getD_getElem? ..).symm.trans d1
    have d3 : a.tmps.getD 128 undef = .agg #[.int .i64 pg, .int .i64 sl, .string bf] := dep 3 _ _ (by kernel_rfl) rfl rfl
    have e3 : a.tmps[128]?.getD undef = _ := (Array.getD_eq_getD_getElem? ..).symm.trans d3
    refine last_enters (f := 13) (args := #[.pointer (some ⟨x, 0, none⟩), .agg #[.int .i64 pg, .int .i64 sl, .string bf]]) ?_ ((ow_push (HS.out.below hb) (i := 0) rfl HRN.out (by have := HFE.out; have := HQ.out; omega) (by have := HFE.out; have := HQ.out; omega) ⟨pg, sl, bf⟩).mono (fun e w' ⟨h1, h2⟩ => ⟨_, h1, rfl, h2⟩))
    clear old dep hsz hb
    go_simp
  · intro i o hki ho
    have hin : i < 5 := (Array.getElem?_eq_some_iff.1 ho).1
    exact absurd hki (by omega)
  · intro a w4 v hR hsz hdf hk fin keep
    obtain ⟨tm, df⟩ := a
    have hx := frame_of [125, 126, 127, 128, 129] (by kernel_rfl) hsz keep
    dsimp only at hdf hx hk
    simp only [List.foldl_cons, List.foldl_nil] at hx
    subst hdf
    clear hsz keep
    rw [hk] at hx
    clear hk
    generalize tm.getD 125 undef = y125 at hx
    generalize tm.getD 126 undef = y126 at hx
    generalize tm.getD 127 undef = y127 at hx
    generalize tm.getD 128 undef = y128 at hx
    clear fin
    simp only [List.setIfInBounds_toArray, List.set_cons_succ, List.set_cons_zero] at hx
    subst hx
    obtain ⟨rfl, hs4⟩ := hR
    have HX := hide (hs4.blk (i := 2) rfl)
    obtain ⟨Az, Bz, htz, hback⟩ := hs4.txn (i := 1) rfl HMN.out
    have HBK := hide hback
    obtain ⟨Aa, c, rfl⟩ := htz.l.form
    have HT0 := hide htz
    have hbel : Below w4.heap.size w4 (w4.drew.alloc (.cells #[.int .i64 pg, .int .i64 sl, .string bf] 31)) := (Below.refl _ w4).drew.alloc (by simp) _
    have h1 := htz.below hbel
    obtain ⟨v', w9, hrun, hr, hg, hv⟩ := run_append_k (K := chK) (w := (w4.drew.alloc (.cells #[.int .i64 pg, .int .i64 sl, .string bf] 31))) (b := w4.heap.size) (c := 1) (x := ⟨pg, sl, bf⟩) h1.l (by have := HFE.out; have := HQ.out; omega) (fun i u hu => (Blk.new_ w4.drew #[.int .i64 pg, .int .i64 sl, .string bf] 31 rfl : Blk (w4.drew.alloc (.cells #[.int .i64 pg, .int .i64 sl, .string bf] 31)) w4.heap.size 31 #[.int .i64 pg, .int .i64 sl, .string bf]).cell i u (by rw [← hu, ← Array.getElem?_toList]; rfl)) 35
    have HRUN : Hid ((Builtin.append_ #[35, 35] 35 #[.slice Aa t.l.length c, .slice (some ⟨w4.heap.size, 0, none⟩) 1 1]).run Try.prog (w4.drew.alloc (.cells #[.int .i64 pg, .int .i64 sl, .string bf] 31)) = .ok v' w9) := hide hrun
    have hk9 : Kept (fun k => (Value.slice Aa t.l.length c).ownBlock = some k) (w4.drew.alloc (.cells #[.int .i64 pg, .int .i64 sl, .string bf] 31)) w9 := (Kept.of_grown hg).mono (fun k e => .inl e)
    have hl9 := hk9.blk h1.blk (fun e => h1.ax z e rfl)
    have HCELL : Hid ((∃ u, w9.cell? ⟨z, 0, none⟩ = some u) ∧ w9.frozen? ⟨z, 0, none⟩ = false) := hide ⟨⟨_, hl9.cell 0 _ rfl⟩, hl9.frozen 0⟩
    obtain ⟨hp3, hk3, hn3⟩ := h1.lSet hk9 hr (fun k e => by
      rcases hv with hv | hv
      · exact .inl (hv ▸ e)
      · rw [hv] at e
        exact .inr (by have := Option.some.inj e; omega))
    have hs1 := hbel.size
    obtain ⟨An, cn, en⟩ := hr.form
    rw [List.length_append, List.length_singleton] at en
    subst en
    have HQQ : Hid (TxQ layM w4 ((w9.setCell ⟨z, 0, none⟩ (.slice An (t.l.length + 1) cn)).setCell ⟨z, 2, none⟩ (.int .i64 ((t.ops + 1 : Nat) : Int))) z (.slice Aa t.l.length c) Bz (t.push ⟨pg, sl, bf⟩)) := hide ⟨((Kept.of_below hbel).trans hk3 (fun k hk => .inl hk)).trans (Kept.setCell _ ⟨z, 2, none⟩ _) (fun k e => .inl (.inl e)), .slice An (t.l.length + 1) cn, Bz, hp3.opsSet (t.ops + 1), fun k hk => (hn3 k hk).imp id (fun h => Nat.le_trans hs1 h)⟩
    obtain ⟨_, q1, _⟩ := hp3.cells
    have q1 : (w9.setCell ⟨z, 0, none⟩ (.slice An (t.l.length + 1) cn)).cell? ⟨z, 2, none⟩ = some (.int .i64 (t.ops : Int)) := q1
    have HQ1 := hide q1
    have HQF := hide (hp3.blk.frozen 2)
    have hoi : (t.ops : Int) ≤ 1000 := by have := HFE.out; have := HQ.out; omega
    clear hrun hr hg hv hk9 hl9 hp3 hk3 hn3 hs1 hbel h1 htz hback q1 hs4
    go_upto_region 37 with (fail)
    refine region_phases (valV [some (.pointer (some ⟨z, 0, none⟩)), some (.pointer (some ⟨z, 0, none⟩)), some (.pointer (some ⟨z, 0, none⟩)), some (.pointer (some ⟨z, 0, none⟩)), some (.slice Aa t.l.length c), some (.pointer (some ⟨cb, 3, none⟩)), some (.agg #[.int .i64 pg, .int .i64 sl, .string bf]), some (.slice (some ⟨w4.heap.size, 0, none⟩) 1 1), some (.slice An (t.l.length + 1) cn), some (.pointer (some ⟨z, 0, none⟩)), some (.pointer (some ⟨z, 0, none⟩)), none]) (phased [⟨11, 10, fun _ w2 => w2 = (w9.setCell ⟨z, 0, none⟩ (.slice An (t.l.length + 1) cn))⟩, ⟨8, 8, fun _ w2 => w2 = w9⟩, ⟨7, 7, fun _ w2 => w2 = (w4.drew.alloc (.cells #[.int .i64 pg, .int .i64 sl, .string bf] 31))⟩] (fun w2 => w2 = w4.drew)) (by kernel_rfl) (by kernel_rfl) (by kernel_rfl) (by kernel_rfl) (phased_ext (by kernel_rfl)) (rfl) ?_ ?_
    · intro i o ho L a w2 hph hsz hLi hnot hyes old dep
      match i, ho with
      | 0, ho =>
        obtain rfl := Option.some.inj ho
        rw [if_pos (wanted_none rfl)]
        have o8 := old 8 (by kernel_rfl)
        refine wp_yields (v := .pointer (some ⟨z, 0, none⟩)) (w' := w2) ?_ (fun u hu => Option.some.inj (Option.some.inj hu)) (phased_quiet hLi (by rfl) hph)
        clear dep old ho hsz hph hnot hyes hLi
        go_simp
      | 1, ho =>
        obtain rfl := Option.some.inj ho
        rw [if_pos (wanted_none rfl)]
        have o8 := old 8 (by kernel_rfl)
        refine wp_yields (v := .pointer (some ⟨z, 0, none⟩)) (w' := w2) ?_ (fun u hu => Option.some.inj (Option.some.inj hu)) (phased_quiet hLi (by rfl) hph)
        clear dep old ho hsz hph hnot hyes hLi
        go_simp
      | 2, ho =>
        obtain rfl := Option.some.inj ho
        rw [if_pos (wanted_none rfl)]
        have d1 : a.tmps.getD 133 undef = .pointer (some ⟨z, 0, none⟩) := dep 1 _ _ (by kernel_rfl) rfl rfl _ rfl
        have e1 : a.tmps[133]?.getD undef = .pointer (some ⟨z, 0, none⟩) := (Array.getD_eq_getD_getElem? ..).symm.trans d1
        refine wp_yields (v := .pointer (some ⟨z, 0, none⟩)) (w' := w2) ?_ (fun u hu => Option.some.inj (Option.some.inj hu)) (phased_quiet hLi (by rfl) hph)
        clear dep old ho hsz hph hnot hyes hLi
        go_simp
      | 3, ho =>
        obtain rfl := Option.some.inj ho
        rw [if_pos (wanted_none rfl)]
        have d2 : a.tmps.getD 134 undef = .pointer (some ⟨z, 0, none⟩) := dep 2 _ _ (by kernel_rfl) rfl rfl _ rfl
        have e2 : a.tmps[134]?.getD undef = .pointer (some ⟨z, 0, none⟩) := (Array.getD_eq_getD_getElem? ..).symm.trans d2
        refine wp_yields (v := .pointer (some ⟨z, 0, none⟩)) (w' := w2) ?_ (fun u hu => Option.some.inj (Option.some.inj hu)) (phased_quiet hLi (by rfl) hph)
        clear dep old ho hsz hph hnot hyes hLi
        go_simp
      | 4, ho =>
        obtain rfl := Option.some.inj ho
        rw [if_pos (wanted_none rfl)]
        have d3 : a.tmps.getD 135 undef = .pointer (some ⟨z, 0, none⟩) := dep 3 _ _ (by kernel_rfl) rfl rfl _ rfl
        have e3 : a.tmps[135]?.getD undef = .pointer (some ⟨z, 0, none⟩) := (Array.getD_eq_getD_getElem? ..).symm.trans d3
        have hph2 := hph
        unfold phased at hph2
        rw [if_neg (by rw [hnot 11 (by kernel_rfl)]; decide)] at hph2
        unfold phased at hph2
        rw [if_neg (by rw [hnot 8 (by kernel_rfl)]; decide)] at hph2
        have hB : Below w4.heap.size w4 w2 := phased_all (R := fun w2 => Below w4.heap.size w4 w2) (fun p hp v w2 h => by simp only [List.mem_cons, List.not_mem_nil, or_false] at hp; rcases hp with rfl; rw [show w2 = _ from h]; exact (Below.refl _ _).drew.alloc (by simp) _) (fun w2 h => by rw [h]; exact (Below.refl _ _).drew) hph2
        clear hph2
        have c0 := (HT0.out.below hB).cells.1
        refine wp_yields (v := .slice Aa t.l.length c) (w' := w2) ?_ (fun u hu => Option.some.inj (Option.some.inj hu)) (phased_quiet hLi (by rfl) hph)
        clear dep old ho hsz hph hnot hyes hLi
        clear hB
        go_simp
      | 5, ho =>
        obtain rfl := Option.some.inj ho
        rw [if_pos (wanted_none rfl)]
        have o6 := old 6 (by kernel_rfl)
        refine wp_yields (v := .pointer (some ⟨cb, 3, none⟩)) (w' := w2) ?_ (fun u hu => Option.some.inj (Option.some.inj hu)) (phased_quiet hLi (by rfl) hph)
        clear dep old ho hsz hph hnot hyes hLi
        go_simp
      | 6, ho =>
        obtain rfl := Option.some.inj ho
        rw [if_pos (wanted_none rfl)]
        have d5 : a.tmps.getD 137 undef = .pointer (some ⟨cb, 3, none⟩) := dep 5 _ _ (by kernel_rfl) rfl rfl _ rfl
        have e5 : a.tmps[137]?.getD undef = .pointer (some ⟨cb, 3, none⟩) := (Array.getD_eq_getD_getElem? ..).symm.trans d5
        have hph2 := hph
        unfold phased at hph2
        rw [if_neg (by rw [hnot 11 (by kernel_rfl)]; decide)] at hph2
        unfold phased at hph2
        rw [if_neg (by rw [hnot 8 (by kernel_rfl)]; decide)] at hph2
        have hB : Below w4.heap.size w4 w2 := phased_all (R := fun w2 => Below w4.heap.size w4 w2) (fun p hp v w2 h => by simp only [List.mem_cons, List.not_mem_nil, or_false] at hp; rcases hp with rfl; rw [show w2 = _ from h]; exact (Below.refl _ _).drew.alloc (by simp) _) (fun w2 h => by rw [h]; exact (Below.refl _ _).drew) hph2
        clear hph2
        have hx := HX.out.below hB
        have c3 := hx.cell 3 _ rfl
        have c4 := hx.cell 4 _ rfl
        have c5 := hx.cell 5 _ rfl
        clear hx
        refine wp_yields (v := .agg #[.int .i64 pg, .int .i64 sl, .string bf]) (w' := w2) ?_ (fun u hu => Option.some.inj (Option.some.inj hu)) (phased_quiet hLi (by rfl) hph)
        clear dep old ho hsz hph hnot hyes hLi
        clear hB
        go_simp
      | 7, ho =>
        obtain rfl := Option.some.inj ho
        rw [if_pos (wanted_none rfl)]
        have d6 : a.tmps.getD 138 undef = .agg #[.int .i64 pg, .int .i64 sl, .string bf] := dep 6 _ _ (by kernel_rfl) rfl rfl _ rfl
        have e6 : a.tmps[138]?.getD undef = .agg #[.int .i64 pg, .int .i64 sl, .string bf] := (Array.getD_eq_getD_getElem? ..).symm.trans d6
        unfold phased at hph
        rw [if_neg (by rw [hnot 11 (by kernel_rfl)]; decide)] at hph
        unfold phased at hph
        rw [if_neg (by rw [hnot 8 (by kernel_rfl)]; decide)] at hph
        unfold phased at hph
        rw [if_neg (by rw [hLi]; decide)] at hph
        unfold phased at hph
        obtain rfl : w2 = w4.drew := hph
        refine wp_yields (v := .slice (some ⟨w4.heap.size, 0, none⟩) 1 1) (w' := (w4.drew.alloc (.cells #[.int .i64 pg, .int .i64 sl, .string bf] 31))) ?_ (fun u hu => Option.some.inj (Option.some.inj hu)) ?_
        · clear dep old ho hsz hnot hyes hLi
          go_simp
        · unfold phased
          rw [if_neg (by simp [also, hnot 11 (by kernel_rfl)])]
          unfold phased
          rw [if_neg (by simp [also, hnot 8 (by kernel_rfl)])]
          unfold phased
          rw [if_pos (by simp [also])]
          exact ⟨by simp [also], rfl⟩
      | 8, ho =>
        obtain rfl := Option.some.inj ho
        rw [if_pos (wanted_none rfl)]
        have d4 : a.tmps.getD 136 undef = .slice Aa t.l.length c := dep 4 _ _ (by kernel_rfl) rfl rfl _ rfl
        have e4 : a.tmps[136]?.getD undef = .slice Aa t.l.length c := (Array.getD_eq_getD_getElem? ..).symm.trans d4
        have d7 : a.tmps.getD 139 undef = .slice (some ⟨w4.heap.size, 0, none⟩) 1 1 := dep 7 _ _ (by kernel_rfl) rfl rfl _ rfl
        have e7 : a.tmps[139]?.getD undef = .slice (some ⟨w4.heap.size, 0, none⟩) 1 1 := (Array.getD_eq_getD_getElem? ..).symm.trans d7
        unfold phased at hph
        rw [if_neg (by rw [hnot 11 (by kernel_rfl)]; decide)] at hph
        unfold phased at hph
        rw [if_neg (by rw [hLi]; decide)] at hph
        unfold phased at hph
        rw [if_pos (hyes 7 (by kernel_rfl))] at hph
        obtain rfl : w2 = (w4.drew.alloc (.cells #[.int .i64 pg, .int .i64 sl, .string bf] 31)) := hph.2
        have hr := HRUN.out
        refine wp_yields (v := .slice An (t.l.length + 1) cn) (w' := w9) (exec_append_run (.tmp 136) (.tmp 139) _ rfl d4 d7 hr) (fun u hu => Option.some.inj (Option.some.inj hu)) ?_
        unfold phased
        rw [if_neg (by simp [also, hnot 11 (by kernel_rfl)])]
        unfold phased
        rw [if_pos (by simp [also])]
        exact ⟨by simp [also], rfl⟩
      | 9, ho =>
        obtain rfl := Option.some.inj ho
        rw [if_pos (wanted_none rfl)]
        have d0 : a.tmps.getD 132 undef = .pointer (some ⟨z, 0, none⟩) := dep 0 _ _ (by kernel_rfl) rfl rfl _ rfl
        have e0 : a.tmps[132]?.getD undef = .pointer (some ⟨z, 0, none⟩) := (Array.getD_eq_getD_getElem? ..).symm.trans d0
        refine wp_yields (v := .pointer (some ⟨z, 0, none⟩)) (w' := w2) ?_ (fun u hu => Option.some.inj (Option.some.inj hu)) (phased_quiet hLi (by rfl) hph)
        clear dep old ho hsz hph hnot hyes hLi
        go_simp
      | 10, ho =>
        obtain rfl := Option.some.inj ho
        rw [if_pos (wanted_none rfl)]
        have d9 : a.tmps.getD 141 undef = .pointer (some ⟨z, 0, none⟩) := dep 9 _ _ (by kernel_rfl) rfl rfl _ rfl
        have e9 : a.tmps[141]?.getD undef = .pointer (some ⟨z, 0, none⟩) := (Array.getD_eq_getD_getElem? ..).symm.trans d9
        refine wp_yields (v := .pointer (some ⟨z, 0, none⟩)) (w' := w2) ?_ (fun u hu => Option.some.inj (Option.some.inj hu)) (phased_quiet hLi (by rfl) hph)
        clear dep old ho hsz hph hnot hyes hLi
        go_simp
      | 11, ho =>
        obtain rfl := Option.some.inj ho
        rw [if_pos (wanted_none rfl)]
        have d8 : a.tmps.getD 140 undef = .slice An (t.l.length + 1) cn := dep 8 _ _ (by kernel_rfl) rfl rfl _ rfl
        have e8 : a.tmps[140]?.getD undef = .slice An (t.l.length + 1) cn := (Array.getD_eq_getD_getElem? ..).symm.trans d8
        have d10 : a.tmps.getD 142 undef = .pointer (some ⟨z, 0, none⟩) := dep 10 _ _ (by kernel_rfl) rfl rfl _ rfl
        have e10 : a.tmps[142]?.getD undef = .pointer (some ⟨z, 0, none⟩) := (Array.getD_eq_getD_getElem? ..).symm.trans d10
        unfold phased at hph
        rw [if_neg (by rw [hLi]; decide)] at hph
        unfold phased at hph
        rw [if_pos (hyes 8 (by kernel_rfl))] at hph
        obtain rfl : w9 = w2 := hph.2.symm
        obtain ⟨⟨u0, hc0⟩, hf0⟩ := HCELL.out
        refine wp_skips (w' := (w9.setCell ⟨z, 0, none⟩ (.slice An (t.l.length + 1) cn))) ?_ (fun u hu => by cases Option.some.inj hu) ?_
        · clear dep old ho hsz hnot hyes hLi hph
          go_simp
        · unfold phased
          rw [if_pos (by simp [also])]
          exact ⟨by simp [also, hyes 10 (by kernel_rfl)], rfl⟩
      | i + 12, ho => exact absurd ho (by simp)
    · intro a w5 hph hsz hdf fin keep
      obtain ⟨tm, df⟩ := a
      have hx := frame_of [132, 133, 134, 135, 136, 137, 138, 139, 140, 141, 142] (by kernel_rfl) hsz keep
      dsimp only at hdf hx
      simp only [List.foldl_cons, List.foldl_nil] at hx
      subst hdf
      clear hsz keep
      have kn : tm.getD 132 undef = .pointer (some ⟨z, 0, none⟩) := fin 0 _ _ rfl rfl _ rfl
      rw [kn] at hx
      clear kn
      have kn : tm.getD 133 undef = .pointer (some ⟨z, 0, none⟩) := fin 1 _ _ rfl rfl _ rfl
      rw [kn] at hx
      clear kn
      have kn : tm.getD 134 undef = .pointer (some ⟨z, 0, none⟩) := fin 2 _ _ rfl rfl _ rfl
      rw [kn] at hx
      clear kn
      have kn : tm.getD 135 undef = .pointer (some ⟨z, 0, none⟩) := fin 3 _ _ rfl rfl _ rfl
      rw [kn] at hx
      clear kn
      have kn : tm.getD 136 undef = .slice Aa t.l.length c := fin 4 _ _ rfl rfl _ rfl
      rw [kn] at hx
      clear kn
      have kn : tm.getD 137 undef = .pointer (some ⟨cb, 3, none⟩) := fin 5 _ _ rfl rfl _ rfl
      rw [kn] at hx
      clear kn
      have kn : tm.getD 138 undef = .agg #[.int .i64 pg, .int .i64 sl, .string bf] := fin 6 _ _ rfl rfl _ rfl
      rw [kn] at hx
      clear kn
      have kn : tm.getD 139 undef = .slice (some ⟨w4.heap.size, 0, none⟩) 1 1 := fin 7 _ _ rfl rfl _ rfl
      rw [kn] at hx
      clear kn
      have kn : tm.getD 140 undef = .slice An (t.l.length + 1) cn := fin 8 _ _ rfl rfl _ rfl
      rw [kn] at hx
      clear kn
      have kn : tm.getD 141 undef = .pointer (some ⟨z, 0, none⟩) := fin 9 _ _ rfl rfl _ rfl
      rw [kn] at hx
      clear kn
      have kn : tm.getD 142 undef = .pointer (some ⟨z, 0, none⟩) := fin 10 _ _ rfl rfl _ rfl
      rw [kn] at hx
      clear kn
      clear fin
      simp only [List.setIfInBounds_toArray, List.set_cons_succ, List.set_cons_zero] at hx
      subst hx
      unfold phased at hph
      rw [if_pos rfl] at hph
      obtain ⟨_, hph⟩ := hph
      obtain rfl := hph
      have c1 := HQ1.out
      have cf := HQF.out
      have ee : ((t.ops + 1 : Nat) : Int) = (t.ops : Int) + 1 := by omega
      have hfin := HBK.out _ _ HQQ.out
      rw [ee] at hfin
      have HFIN := hide hfin
      clear hfin ee
      go_wp2
      exact HK.out _ _ _ _ _ _ _ _ _ _ _ _ _ _ _ _ _ _ _ _ _ _ _ _ _ _ _ _ _ _ _ _ _ _ _ _ _ _ _ _ _ _ _ _ _ _ _ _ _ _ _ _ _ _ _ _ _ _ _ _ _ _ _ _ _ _ _ _ _ _ _ _ _ _ _ _ _ _ _ _ _ _ _ _ _ _ _ _ _ _ _ _ _ _ _ _ _ _ _ _ _ _ _ _ _ _ _ _ _ _ _ _ _ _ _ _ _ _ _ _ _ _ _ _ _ _ _ _ _ _ _ _ _ _ _ _ _ _ _ _ _ _ _ _ _ _ _ _ _ _ _ _ _ _ _ _ _ _ _ _ _ _ _ _ _ _ _ _ _ _ _ _ _ _ _ _ _ _ _ _ _ _ _ _ _ _ _ _ _ _ _ _ _ _ _ _ _ _ _ _ _ _ _ _ _ _ _ (H.out.both (by have := HFE.out; show (t.l ++ [_]).length ≤ _ ∧ t.ops + 1 ≤ _; rw [List.length_append, List.length_singleton]; omega) HFIN.out)
end Go.Proofs.Ytkegfedbffhnfaa
