/-
  TransRuns' walk: Back.
-/
import Derived.Test.YtkegfedbffhnfaaPartsG
namespace Go.Proofs.Ytkegfedbffhnfaa
open Go.RowKit
set_option maxRecDepth 100000
set_option linter.unusedSimpArgs false
set_option linter.unusedVariables false

def tupPart (v : Value) (n : Nat) : Value := match v with | .tuple a => a.getD n undef | _ => undef
theorem get_say5 {A0 W : World} {F0 : Nat → Prop} {L : List Res} {i g j : Nat} {T : Tb} {v : Value} (h : Ow A0 F0 W L) (hi : L[i]? = some (Res.tt g T)) (hv : pv (T j) = v) (W2 : World) (hb : Below W.heap.size W W2) : Calls Try.prog 12 #[.pointer (some ⟨g, 0, none⟩), .int .i64 (j : Int)] W2 fun e w' => ∃ u, e = .returned u ∧ (Say.is v).p w' u ∧ Below W2.heap.size W2 w' :=
  (ow_getn (h.below hb) hi hv).mono (fun e w' ⟨h1, h2⟩ => ⟨_, h1, rfl, by rw [← h2]; exact Below.refl _ _⟩)
set_option maxHeartbeats 16000000 in
theorem rk5n {w0 w : World} {g mb cb n q : Nat} {R M : Tb} {ck cn ca pg sl : Int} {bf : ByteArray} {u0 u1 u2 u5 u9 u10 u11 u12 u13 u14 u15 u16 u17 u18 u19 u20 u21 u22 u23 u24 u25 u26 u27 u28 u29 u30 u31 u32 u33 u34 u35 u36 u37 u38 u39 u40 u41 u43 u44 u45 u46 u47 u48 u49 u50 u51 u52 u53 u54 u55 u56 u57 u58 u59 u60 u61 u62 u63 u64 u65 u66 u67 u68 u69 u70 u71 u72 u73 u74 u75 u76 u77 u78 u79 u80 u81 u82 u83 u84 u85 u86 u87 u88 u89 u90 u91 u92 u93 u94 u95 u96 u97 u98 u99 u100 u101 u102 u103 u104 u105 u106 u107 u108 u109 u110 u111 u112 u113 u114 u115 u116 u117 u118 u119 u120 u121 u122 u123 u124 u125 u126 u127 u128 u129 u130 u131 u132 u133 u134 u135 u136 u137 u138 u139 u140 u141 u142 u143 u144 u145 u146 u147 u148 u149 u150 u151 u152 u153 u154 u155 u156 u157 u158 u159 u160 u161 u162 u163 u164 u165 u166 u167 u168 u169 u170 u171 u172 u173 u174 u175 u176 u177 u178 u179 u180 u181 u182 u183 u184 u185 u186 u187 u188 u189 u190 u191 u192 u193 u194 u195 u196 u197 u198 u199 u200 u201 u202 u203 u204 u205 u206 u207 u208 u209 u210 u211 u212 u213 u214 u215 u216 u217 u218 u219 u220 u221 u222 u223 u224 u225 u226 u227 u228 u229 u230 u231 u232 u233 u234 u235 u236 u237 u238 u239 u240 u241 u242 u243 : Value} (h : RunS w0 w g mb cb #[.int .i64 ck, .int .i64 cn, .int .i64 ca, .int .i64 pg, .int .i64 sl, .string bf] R M q) (hq : q ≤ 300) (hn : n < 4) (hRn : R n = none) {Q : Exit → Act → World → Prop}
    (hK : ∀ (v9 v10 v11 v12 v13 v14 v15 v43 v44 v45 v46 v47 v48 v49 v50 v51 v52 v53 v54 v55 v56 v57 v58 v59 v60 v61 v62 v63 v64 v65 v66 v67 v68 v69 v70 v71 v72 v73 v74 v75 v76 v77 v78 v79 v80 v81 v82 v83 v84 v85 v86 v87 v88 v89 v90 v91 v92 v93 v94 v95 v96 v97 v98 v99 v100 v101 v102 v103 v104 v105 v106 v107 v108 v109 v110 v111 v112 v113 v114 v115 v116 v117 v118 v119 v120 v121 v122 v123 v124 v125 v126 v127 v128 v129 v130 v131 v132 v133 v134 v135 v136 v137 v138 v139 v140 v141 v142 v143 v144 v145 v146 v147 v148 v149 v150 v151 v152 v153 v154 v155 v156 v157 v158 v159 v160 v161 v162 v163 v164 v165 v166 v167 v168 v169 v170 v171 v172 v173 v174 v175 v176 v177 v178 v179 v180 v181 v182 v183 v184 v185 v186 v187 v188 v189 v190 v191 v192 v193 v194 v195 v196 v197 v198 v199 v200 v201 v202 v203 v204 v205 v206 v207 v208 v209 v210 v211 v212 v213 v214 v215 v216 v217 v218 v219 v220 v221 v222 v223 v224 v225 v226 v227 v228 v229 v230 v231 v232 v233 v234 v235 v236 v237 v238 v239 : Value) (w' : World) (R' M' : Tb), RunS w0 w' g mb cb #[.int .i64 ck, .int .i64 cn, .int .i64 ca, .int .i64 pg, .int .i64 sl, .string bf] R' M' (q + 1) → Q .normal ⟨#[u0, u1, u2, .pointer (some ⟨g, 0, none⟩), .pointer (some ⟨mb, 0, none⟩), u5, .pointer (some ⟨cb, 0, none⟩), .int .i64 (n : Int), .pointer none, v9, v10, v11, v12, v13, v14, v15, u16, u17, u18, u19, u20, u21, u22, u23, u24, u25, u26, u27, u28, u29, u30, u31, u32, u33, u34, u35, u36, u37, u38, u39, u40, u41, .int .i64 5, v43, v44, v45, v46, v47, v48, v49, v50, v51, v52, v53, v54, v55, v56, v57, v58, v59, v60, v61, v62, v63, v64, v65, v66, v67, v68, v69, v70, v71, v72, v73, v74, v75, v76, v77, v78, v79, v80, v81, v82, v83, v84, v85, v86, v87, v88, v89, v90, v91, v92, v93, v94, v95, v96, v97, v98, v99, v100, v101, v102, v103, v104, v105, v106, v107, v108, v109, v110, v111, v112, v113, v114, v115, v116, v117, v118, v119, v120, v121, v122, v123, v124, v125, v126, v127, v128, v129, v130, v131, v132, v133, v134, v135, v136, v137, v138, v139, v140, v141, v142, v143, v144, v145, v146, v147, v148, v149, v150, v151, v152, v153, v154, v155, v156, v157, v158, v159, v160, v161, v162, v163, v164, v165, v166, v167, v168, v169, v170, v171, v172, v173, v174, v175, v176, v177, v178, v179, v180, v181, v182, v183, v184, v185, v186, v187, v188, v189, v190, v191, v192, v193, v194, v195, v196, v197, v198, v199, v200, v201, v202, v203, v204, v205, v206, v207, v208, v209, v210, v211, v212, v213, v214, v215, v216, v217, v218, v219, v220, v221, v222, v223, v224, v225, v226, v227, v228, v229, v230, v231, v232, v233, v234, v235, v236, v237, v238, v239, u240, u241, u242, u243], []⟩ w') :
    Code.wp Try.prog (subC (Try.f3.body.getD .skip) [1,1,1,1,1,0,1,0,0,1,1,0,0,1,1,1,1,0,1]) Q ⟨#[u0, u1, u2, .pointer (some ⟨g, 0, none⟩), .pointer (some ⟨mb, 0, none⟩), u5, .pointer (some ⟨cb, 0, none⟩), .int .i64 (n : Int), .pointer none, u9, u10, u11, u12, u13, u14, u15, u16, u17, u18, u19, u20, u21, u22, u23, u24, u25, u26, u27, u28, u29, u30, u31, u32, u33, u34, u35, u36, u37, u38, u39, u40, u41, .int .i64 5, u43, u44, u45, u46, u47, u48, u49, u50, u51, u52, u53, u54, u55, u56, u57, u58, u59, u60, u61, u62, u63, u64, u65, u66, u67, u68, u69, u70, u71, u72, u73, u74, u75, u76, u77, u78, u79, u80, u81, u82, u83, u84, u85, u86, u87, u88, u89, u90, u91, u92, u93, u94, u95, u96, u97, u98, u99, u100, u101, u102, u103, u104, u105, u106, u107, u108, u109, u110, u111, u112, u113, u114, u115, u116, u117, u118, u119, u120, u121, u122, u123, u124, u125, u126, u127, u128, u129, u130, u131, u132, u133, u134, u135, u136, u137, u138, u139, u140, u141, u142, u143, u144, u145, u146, u147, u148, u149, u150, u151, u152, u153, u154, u155, u156, u157, u158, u159, u160, u161, u162, u163, u164, u165, u166, u167, u168, u169, u170, u171, u172, u173, u174, u175, u176, u177, u178, u179, u180, u181, u182, u183, u184, u185, u186, u187, u188, u189, u190, u191, u192, u193, u194, u195, u196, u197, u198, u199, u200, u201, u202, u203, u204, u205, u206, u207, u208, u209, u210, u211, u212, u213, u214, u215, u216, u217, u218, u219, u220, u221, u222, u223, u224, u225, u226, u227, u228, u229, u230, u231, u232, u233, u234, u235, u236, u237, u238, u239, u240, u241, u242, u243], []⟩ w := by
  conv => arg 2; whnf
  have HK := hide hK
  clear hK
  have HS := hide h.ow
  have H := hide h
  have HQ : Hid (q ≤ 300) := hide hq
  have HGV : Hid (pv (R n) = .pointer none) := hide (by rw [hRn]; rfl)
  clear h hq hn hRn
  go_upto_region 15 with (fail)
  refine region_parts 4 48 [Say.is (.int .i64 (n : Int)), Say.is (.pointer none), Say.is (.pointer (some ⟨cb, 2, none⟩)), Say.is (.int .i64 ca)] (fun i v => if i = 5 then v else if i = 6 then tupPart v 0 else if i = 7 then tupPart v 1 else if i = 8 then tupPart v 0 else if i = 9 then tupPart v 1 else v) (fun v w' => v = .tuple #[.int .i64 0, .bool false] ∧ Ow w0 (fun _ => False) w' [Res.tt g (R), Res.tab layM 29 mb (M), Res.blk cb 33 #[.int .i64 ck, .int .i64 cn, .int .i64 ca, .int .i64 pg, .int .i64 sl, .string bf]]) rfl rfl rfl (by kernel_rfl) (by kernel_rfl) (by kernel_rfl) (by kernel_rfl) (by kernel_rfl) ?_ ?_ ?_ ?_
  · intro i o hik ho a w2 hb hsz old dep
    match i, ho with
    | 0, ho =>
      obtain rfl := Option.some.inj ho
      have o7 : a.tmps.getD 7 undef = _ := old 7 (by kernel_rfl)
      rw [if_pos (wanted_none rfl)]
      refine grow_same (v := .int .i64 (n : Int)) ?_ rfl
      clear old dep ho hsz hb
      go_simp
    | 1, ho =>
      obtain rfl := Option.some.inj ho
      have o3 : a.tmps.getD 3 undef = _ := old 3 (by kernel_rfl)
      have d0 : a.tmps.getD 44 undef = .int .i64 (n : Int) := dep 0 _ _ (by kernel_rfl) rfl rfl
      have e0 : a.tmps[44]?.getD undef = _ := (Array.getD_eq_getD_getElem? ..).symm.trans d0
      rw [if_pos (wanted_none rfl)]
      refine grow_enters (f := 12) (args := #[.pointer (some ⟨g, 0, none⟩), .int .i64 (n : Int)]) ?_ (get_say5 HS.out (i := 0) rfl HGV.out _ hb)
      clear old dep ho hsz hb
      go_simp
    | 2, ho =>
      obtain rfl := Option.some.inj ho
      have o6 : a.tmps.getD 6 undef = _ := old 6 (by kernel_rfl)
      rw [if_pos (wanted_none rfl)]
      refine grow_same (v := .pointer (some ⟨cb, 2, none⟩)) ?_ rfl
      clear old dep ho hsz hb
      go_simp
    | 3, ho =>
      obtain rfl := Option.some.inj ho
      have d2 : a.tmps.getD 46 undef = .pointer (some ⟨cb, 2, none⟩) := dep 2 _ _ (by kernel_rfl) rfl rfl
      have e2 : a.tmps[46]?.getD undef = _ := (Array.getD_eq_getD_getElem? ..).symm.trans d2
      rw [if_pos (wanted_none rfl)]
      have c3 := ((HS.out.below hb).blk (i := 2) rfl).cell 2 _ rfl
      refine grow_same (v := .int .i64 ca) ?_ rfl
      clear old dep ho hsz hb
      go_simp
    | i + 4, ho => exact absurd hik (by omega)
  · intro a w2 hb hsz old dep
    have d1 : a.tmps.getD 45 undef = .pointer none := dep 1 _ _ (by kernel_rfl) rfl rfl
    have e1 : a.tmps[45]?.getD undef = _ := (Array.getD_eq_getD_getElem? ..).symm.trans d1
    have d3 : a.tmps.getD 47 undef = .int .i64 ca := dep 3 _ _ (by kernel_rfl) rfl rfl
    have e3 : a.tmps[47]?.getD undef = _ := (Array.getD_eq_getD_getElem? ..).symm.trans d3
    refine last_enters (f := 16) (args := #[.pointer none, .int .i64 ca]) ?_ ((back_nil ca _).mono (fun e w' ⟨h1, h2⟩ => ⟨_, h1, rfl, by rw [← h2]; exact HS.out.below hb⟩))
    clear old dep hsz hb
    go_simp
  · intro i o hki ho
    have hin : i < 10 := (Array.getElem?_eq_some_iff.1 ho).1
    obtain rfl | rfl | rfl | rfl | rfl : i = 5 ∨ i = 6 ∨ i = 7 ∨ i = 8 ∨ i = 9 := by omega
    · obtain rfl := Option.some.inj ho
      refine ⟨rfl, fun a w v hR hk hj => ?_⟩
      obtain ⟨rfl, hR⟩ := hR
      have d4 : a.tmps.getD 48 undef = _ := hk (by kernel_rfl)
      have e4 : a.tmps[48]?.getD undef = _ := (Array.getD_eq_getD_getElem? ..).symm.trans d4
      show _ = Result.ok (Go.Next.value (.tuple #[.int .i64 0, .bool false])) w
      clear hki ho hin hk hj hR
      go_simp
    · obtain rfl := Option.some.inj ho
      refine ⟨rfl, fun a w v hR hk hj => ?_⟩
      obtain ⟨rfl, hR⟩ := hR
      have d5 : a.tmps.getD 43 undef = .tuple #[.int .i64 0, .bool false] := hj 5 _ _ (by decide) (by kernel_rfl) rfl rfl
      have e5 : a.tmps[43]?.getD undef = _ := (Array.getD_eq_getD_getElem? ..).symm.trans d5
      show _ = Result.ok (Go.Next.value (.int .i64 0)) w
      clear hki ho hin hk hj hR
      go_simp
    · obtain rfl := Option.some.inj ho
      refine ⟨rfl, fun a w v hR hk hj => ?_⟩
      obtain ⟨rfl, hR⟩ := hR
      have d5 : a.tmps.getD 43 undef = .tuple #[.int .i64 0, .bool false] := hj 5 _ _ (by decide) (by kernel_rfl) rfl rfl
      have e5 : a.tmps[43]?.getD undef = _ := (Array.getD_eq_getD_getElem? ..).symm.trans d5
      show _ = Result.ok (Go.Next.value (.bool false)) w
      clear hki ho hin hk hj hR
      go_simp
    · obtain rfl := Option.some.inj ho
      refine ⟨rfl, fun a w v hR hk hj => ?_⟩
      obtain ⟨rfl, hR⟩ := hR
      have d6 : a.tmps.getD 49 undef = .int .i64 0 := hj 6 _ _ (by decide) (by kernel_rfl) rfl rfl
      have e6 : a.tmps[49]?.getD undef = _ := (Array.getD_eq_getD_getElem? ..).symm.trans d6
      show _ = Result.ok (Go.Next.value (.int .i64 0)) w
      clear hki ho hin hk hj hR
      go_simp
    · obtain rfl := Option.some.inj ho
      refine ⟨rfl, fun a w v hR hk hj => ?_⟩
      obtain ⟨rfl, hR⟩ := hR
      have d7 : a.tmps.getD 50 undef = .bool false := hj 7 _ _ (by decide) (by kernel_rfl) rfl rfl
      have e7 : a.tmps[50]?.getD undef = _ := (Array.getD_eq_getD_getElem? ..).symm.trans d7
      show _ = Result.ok (Go.Next.value (.bool false)) w
      clear hki ho hin hk hj hR
      go_simp
  · intro a w4 v hR hsz hdf hk fin keep
    obtain ⟨tm, df⟩ := a
    obtain ⟨rfl, hR⟩ := hR
    have hx := frame_of [44, 45, 46, 47, 48, 43, 49, 50, 14, 15] (by kernel_rfl) hsz keep
    dsimp only at hdf hx hk
    simp only [List.foldl_cons, List.foldl_nil] at hx
    subst hdf
    clear hsz keep
    rw [hk] at hx
    clear hk
    generalize tm.getD 44 undef = y44 at hx
    generalize tm.getD 45 undef = y45 at hx
    generalize tm.getD 46 undef = y46 at hx
    generalize tm.getD 47 undef = y47 at hx
    have kn : tm.getD 43 undef = .tuple #[.int .i64 0, .bool false] := fin 5 _ _ (by decide) rfl rfl
    rw [kn] at hx
    clear kn
    have kn : tm.getD 49 undef = .int .i64 0 := fin 6 _ _ (by decide) rfl rfl
    rw [kn] at hx
    clear kn
    have kn : tm.getD 50 undef = .bool false := fin 7 _ _ (by decide) rfl rfl
    rw [kn] at hx
    clear kn
    have kn : tm.getD 14 undef = .int .i64 0 := fin 8 _ _ (by decide) rfl rfl
    rw [kn] at hx
    clear kn
    have kn : tm.getD 15 undef = .bool false := fin 9 _ _ (by decide) rfl rfl
    rw [kn] at hx
    clear kn
    clear fin
    simp only [List.setIfInBounds_toArray, List.set_cons_succ, List.set_cons_zero] at hx
    subst hx
    have HE := hide hR
    clear hR
    go_wp2
    go_quiet (fail)
    go_wp2
    exact HK.out _ _ _ _ _ _ _ _ _ _ _ _ _ _ _ _ _ _ _ _ _ _ _ _ _ _ _ _ _ _ _ _ _ _ _ _ _ _ _ _ _ _ _ _ _ _ _ _ _ _ _ _ _ _ _ _ _ _ _ _ _ _ _ _ _ _ _ _ _ _ _ _ _ _ _ _ _ _ _ _ _ _ _ _ _ _ _ _ _ _ _ _ _ _ _ _ _ _ _ _ _ _ _ _ _ _ _ _ _ _ _ _ _ _ _ _ _ _ _ _ _ _ _ _ _ _ _ _ _ _ _ _ _ _ _ _ _ _ _ _ _ _ _ _ _ _ _ _ _ _ _ _ _ _ _ _ _ _ _ _ _ _ _ _ _ _ _ _ _ _ _ _ _ _ _ _ _ _ _ _ _ _ _ _ _ _ _ _ _ _ _ _ _ _ _ _ _ _ _ _ _ _ _ _ _ _ _ (H.out.next (HE.out.below (Below.drewsN _ _)))
set_option maxHeartbeats 16000000 in
theorem rk5b {w0 w : World} {g mb cb n q : Nat} {R M : Tb} {ck cn ca pg sl : Int} {bf : ByteArray} {x z : Nat} {t : Tx} {u0 u1 u2 u5 u9 u10 u11 u12 u13 u14 u15 u16 u17 u18 u19 u20 u21 u22 u23 u24 u25 u26 u27 u28 u29 u30 u31 u32 u33 u34 u35 u36 u37 u38 u39 u40 u41 u43 u44 u45 u46 u47 u48 u49 u50 u51 u52 u53 u54 u55 u56 u57 u58 u59 u60 u61 u62 u63 u64 u65 u66 u67 u68 u69 u70 u71 u72 u73 u74 u75 u76 u77 u78 u79 u80 u81 u82 u83 u84 u85 u86 u87 u88 u89 u90 u91 u92 u93 u94 u95 u96 u97 u98 u99 u100 u101 u102 u103 u104 u105 u106 u107 u108 u109 u110 u111 u112 u113 u114 u115 u116 u117 u118 u119 u120 u121 u122 u123 u124 u125 u126 u127 u128 u129 u130 u131 u132 u133 u134 u135 u136 u137 u138 u139 u140 u141 u142 u143 u144 u145 u146 u147 u148 u149 u150 u151 u152 u153 u154 u155 u156 u157 u158 u159 u160 u161 u162 u163 u164 u165 u166 u167 u168 u169 u170 u171 u172 u173 u174 u175 u176 u177 u178 u179 u180 u181 u182 u183 u184 u185 u186 u187 u188 u189 u190 u191 u192 u193 u194 u195 u196 u197 u198 u199 u200 u201 u202 u203 u204 u205 u206 u207 u208 u209 u210 u211 u212 u213 u214 u215 u216 u217 u218 u219 u220 u221 u222 u223 u224 u225 u226 u227 u228 u229 u230 u231 u232 u233 u234 u235 u236 u237 u238 u239 u240 u241 u242 u243 : Value} (h : RunS w0 w g mb cb #[.int .i64 ck, .int .i64 cn, .int .i64 ca, .int .i64 pg, .int .i64 sl, .string bf] R M q) (hq : q ≤ 300) (hn : n < 4) (hRn : R n = some (x, t)) (hMn : M n = some (z, t)) (hnb : ca < 1 ∨ (t.sv.length : Int) < ca) {Q : Exit → Act → World → Prop}
    (hK : ∀ (v9 v10 v11 v12 v13 v14 v15 v43 v44 v45 v46 v47 v48 v49 v50 v51 v52 v53 v54 v55 v56 v57 v58 v59 v60 v61 v62 v63 v64 v65 v66 v67 v68 v69 v70 v71 v72 v73 v74 v75 v76 v77 v78 v79 v80 v81 v82 v83 v84 v85 v86 v87 v88 v89 v90 v91 v92 v93 v94 v95 v96 v97 v98 v99 v100 v101 v102 v103 v104 v105 v106 v107 v108 v109 v110 v111 v112 v113 v114 v115 v116 v117 v118 v119 v120 v121 v122 v123 v124 v125 v126 v127 v128 v129 v130 v131 v132 v133 v134 v135 v136 v137 v138 v139 v140 v141 v142 v143 v144 v145 v146 v147 v148 v149 v150 v151 v152 v153 v154 v155 v156 v157 v158 v159 v160 v161 v162 v163 v164 v165 v166 v167 v168 v169 v170 v171 v172 v173 v174 v175 v176 v177 v178 v179 v180 v181 v182 v183 v184 v185 v186 v187 v188 v189 v190 v191 v192 v193 v194 v195 v196 v197 v198 v199 v200 v201 v202 v203 v204 v205 v206 v207 v208 v209 v210 v211 v212 v213 v214 v215 v216 v217 v218 v219 v220 v221 v222 v223 v224 v225 v226 v227 v228 v229 v230 v231 v232 v233 v234 v235 v236 v237 v238 v239 : Value) (w' : World) (R' M' : Tb), RunS w0 w' g mb cb #[.int .i64 ck, .int .i64 cn, .int .i64 ca, .int .i64 pg, .int .i64 sl, .string bf] R' M' (q + 1) → Q .normal ⟨#[u0, u1, u2, .pointer (some ⟨g, 0, none⟩), .pointer (some ⟨mb, 0, none⟩), u5, .pointer (some ⟨cb, 0, none⟩), .int .i64 (n : Int), .pointer (some ⟨z, 0, none⟩), v9, v10, v11, v12, v13, v14, v15, u16, u17, u18, u19, u20, u21, u22, u23, u24, u25, u26, u27, u28, u29, u30, u31, u32, u33, u34, u35, u36, u37, u38, u39, u40, u41, .int .i64 5, v43, v44, v45, v46, v47, v48, v49, v50, v51, v52, v53, v54, v55, v56, v57, v58, v59, v60, v61, v62, v63, v64, v65, v66, v67, v68, v69, v70, v71, v72, v73, v74, v75, v76, v77, v78, v79, v80, v81, v82, v83, v84, v85, v86, v87, v88, v89, v90, v91, v92, v93, v94, v95, v96, v97, v98, v99, v100, v101, v102, v103, v104, v105, v106, v107, v108, v109, v110, v111, v112, v113, v114, v115, v116, v117, v118, v119, v120, v121, v122, v123, v124, v125, v126, v127, v128, v129, v130, v131, v132, v133, v134, v135, v136, v137, v138, v139, v140, v141, v142, v143, v144, v145, v146, v147, v148, v149, v150, v151, v152, v153, v154, v155, v156, v157, v158, v159, v160, v161, v162, v163, v164, v165, v166, v167, v168, v169, v170, v171, v172, v173, v174, v175, v176, v177, v178, v179, v180, v181, v182, v183, v184, v185, v186, v187, v188, v189, v190, v191, v192, v193, v194, v195, v196, v197, v198, v199, v200, v201, v202, v203, v204, v205, v206, v207, v208, v209, v210, v211, v212, v213, v214, v215, v216, v217, v218, v219, v220, v221, v222, v223, v224, v225, v226, v227, v228, v229, v230, v231, v232, v233, v234, v235, v236, v237, v238, v239, u240, u241, u242, u243], []⟩ w') :
    Code.wp Try.prog (subC (Try.f3.body.getD .skip) [1,1,1,1,1,0,1,0,0,1,1,0,0,1,1,1,1,0,1]) Q ⟨#[u0, u1, u2, .pointer (some ⟨g, 0, none⟩), .pointer (some ⟨mb, 0, none⟩), u5, .pointer (some ⟨cb, 0, none⟩), .int .i64 (n : Int), .pointer (some ⟨z, 0, none⟩), u9, u10, u11, u12, u13, u14, u15, u16, u17, u18, u19, u20, u21, u22, u23, u24, u25, u26, u27, u28, u29, u30, u31, u32, u33, u34, u35, u36, u37, u38, u39, u40, u41, .int .i64 5, u43, u44, u45, u46, u47, u48, u49, u50, u51, u52, u53, u54, u55, u56, u57, u58, u59, u60, u61, u62, u63, u64, u65, u66, u67, u68, u69, u70, u71, u72, u73, u74, u75, u76, u77, u78, u79, u80, u81, u82, u83, u84, u85, u86, u87, u88, u89, u90, u91, u92, u93, u94, u95, u96, u97, u98, u99, u100, u101, u102, u103, u104, u105, u106, u107, u108, u109, u110, u111, u112, u113, u114, u115, u116, u117, u118, u119, u120, u121, u122, u123, u124, u125, u126, u127, u128, u129, u130, u131, u132, u133, u134, u135, u136, u137, u138, u139, u140, u141, u142, u143, u144, u145, u146, u147, u148, u149, u150, u151, u152, u153, u154, u155, u156, u157, u158, u159, u160, u161, u162, u163, u164, u165, u166, u167, u168, u169, u170, u171, u172, u173, u174, u175, u176, u177, u178, u179, u180, u181, u182, u183, u184, u185, u186, u187, u188, u189, u190, u191, u192, u193, u194, u195, u196, u197, u198, u199, u200, u201, u202, u203, u204, u205, u206, u207, u208, u209, u210, u211, u212, u213, u214, u215, u216, u217, u218, u219, u220, u221, u222, u223, u224, u225, u226, u227, u228, u229, u230, u231, u232, u233, u234, u235, u236, u237, u238, u239, u240, u241, u242, u243], []⟩ w := by
  conv => arg 2; whnf
  have HK := hide hK
  clear hK
  have HS := hide h.ow
  have H := hide h
  have HQ : Hid (q ≤ 300) := hide hq
  have HGV : Hid (pv (R n) = .pointer (some ⟨x, 0, none⟩)) := hide (by rw [hRn]; rfl)
  have HRN := hide hRn
  have HMN := hide hMn
  have HNB := hide hnb
  clear h hq hn hRn hMn hnb
  go_upto_region 15 with (fail)
  refine region_parts 4 48 [Say.is (.int .i64 (n : Int)), Say.is (.pointer (some ⟨x, 0, none⟩)), Say.is (.pointer (some ⟨cb, 2, none⟩)), Say.is (.int .i64 ca)] (fun i v => if i = 5 then v else if i = 6 then tupPart v 0 else if i = 7 then tupPart v 1 else if i = 8 then tupPart v 0 else if i = 9 then tupPart v 1 else v) (fun v w' => v = .tuple #[.int .i64 0, .bool false] ∧ Ow w0 (fun _ => False) w' [Res.tt g (R), Res.tab layM 29 mb (M), Res.blk cb 33 #[.int .i64 ck, .int .i64 cn, .int .i64 ca, .int .i64 pg, .int .i64 sl, .string bf]]) rfl rfl rfl (by kernel_rfl) (by kernel_rfl) (by kernel_rfl) (by kernel_rfl) (by kernel_rfl) ?_ ?_ ?_ ?_
  · intro i o hik ho a w2 hb hsz old dep
    match i, ho with
    | 0, ho =>
      obtain rfl := Option.some.inj ho
      have o7 : a.tmps.getD 7 undef = _ := old 7 (by kernel_rfl)
      rw [if_pos (wanted_none rfl)]
      refine grow_same (v := .int .i64 (n : Int)) ?_ rfl
      clear old dep ho hsz hb
      go_simp
    | 1, ho =>
      obtain rfl := Option.some.inj ho
      have o3 : a.tmps.getD 3 undef = _ := old 3 (by kernel_rfl)
      have d0 : a.tmps.getD 44 undef = .int .i64 (n : Int) := dep 0 _ _ (by kernel_rfl) rfl rfl
      have e0 : a.tmps[44]?.getD undef = _ := (Array.getD_eq_getD_getElem? ..).symm.trans d0
      rw [if_pos (wanted_none rfl)]
      refine grow_enters (f := 12) (args := #[.pointer (some ⟨g, 0, none⟩), .int .i64 (n : Int)]) ?_ (get_say5 HS.out (i := 0) rfl HGV.out _ hb)
      clear old dep ho hsz hb
      go_simp
    | 2, ho =>
      obtain rfl := Option.some.inj ho
      have o6 : a.tmps.getD 6 undef = _ := old 6 (by kernel_rfl)
      rw [if_pos (wanted_none rfl)]
      refine grow_same (v := .pointer (some ⟨cb, 2, none⟩)) ?_ rfl
      clear old dep ho hsz hb
      go_simp
    | 3, ho =>
      obtain rfl := Option.some.inj ho
      have d2 : a.tmps.getD 46 undef = .pointer (some ⟨cb, 2, none⟩) := dep 2 _ _ (by kernel_rfl) rfl rfl
      have e2 : a.tmps[46]?.getD undef = _ := (Array.getD_eq_getD_getElem? ..).symm.trans d2
      rw [if_pos (wanted_none rfl)]
      have c3 := ((HS.out.below hb).blk (i := 2) rfl).cell 2 _ rfl
      refine grow_same (v := .int .i64 ca) ?_ rfl
      clear old dep ho hsz hb
      go_simp
    | i + 4, ho => exact absurd hik (by omega)
  · intro a w2 hb hsz old dep
    have d1 : a.tmps.getD 45 undef = .pointer (some ⟨x, 0, none⟩) := dep 1 _ _ (by kernel_rfl) rfl rfl
    have e1 : a.tmps[45]?.getD undef = _ := (Array.getD_eq_getD_getElem? ..).symm.trans d1
    have d3 : a.tmps.getD 47 undef = .int .i64 ca := dep 3 _ _ (by kernel_rfl) rfl rfl
    have e3 : a.tmps[47]?.getD undef = _ := (Array.getD_eq_getD_getElem? ..).symm.trans d3
    refine last_enters (f := 16) (args := #[.pointer (some ⟨x, 0, none⟩), .int .i64 ca]) ?_ ((ow_back0 (HS.out.below hb) (i := 0) rfl HRN.out ca HNB.out).mono (fun e w' ⟨h1, h2⟩ => ⟨_, h1, rfl, by rw [← h2]; exact HS.out.below hb⟩))
    clear old dep hsz hb
    go_simp
  · intro i o hki ho
    have hin : i < 10 := (Array.getElem?_eq_some_iff.1 ho).1
    obtain rfl | rfl | rfl | rfl | rfl : i = 5 ∨ i = 6 ∨ i = 7 ∨ i = 8 ∨ i = 9 := by omega
    · obtain rfl := Option.some.inj ho
      refine ⟨rfl, fun a w v hR hk hj => ?_⟩
      obtain ⟨rfl, hR⟩ := hR
      have d4 : a.tmps.getD 48 undef = _ := hk (by kernel_rfl)
      have e4 : a.tmps[48]?.getD undef = _ := (Array.getD_eq_getD_getElem? ..).symm.trans d4
      show _ = Result.ok (Go.Next.value (.tuple #[.int .i64 0, .bool false])) w
      clear hki ho hin hk hj hR
      go_simp
    · obtain rfl := Option.some.inj ho
      refine ⟨rfl, fun a w v hR hk hj => ?_⟩
      obtain ⟨rfl, hR⟩ := hR
      have d5 : a.tmps.getD 43 undef = .tuple #[.int .i64 0, .bool false] := hj 5 _ _ (by decide) (by kernel_rfl) rfl rfl
      have e5 : a.tmps[43]?.getD undef = _ := (Array.getD_eq_getD_getElem? ..).symm.trans d5
      show _ = Result.ok (Go.Next.value (.int .i64 0)) w
      clear hki ho hin hk hj hR
      go_simp
    · obtain rfl := Option.some.inj ho
      refine ⟨rfl, fun a w v hR hk hj => ?_⟩
      obtain ⟨rfl, hR⟩ := hR
      have d5 : a.tmps.getD 43 undef = .tuple #[.int .i64 0, .bool false] := hj 5 _ _ (by decide) (by kernel_rfl) rfl rfl
      have e5 : a.tmps[43]?.getD undef = _ := (Array.getD_eq_getD_getElem? ..).symm.trans d5
      show _ = Result.ok (Go.Next.value (.bool false)) w
      clear hki ho hin hk hj hR
      go_simp
    · obtain rfl := Option.some.inj ho
      refine ⟨rfl, fun a w v hR hk hj => ?_⟩
      obtain ⟨rfl, hR⟩ := hR
      have d6 : a.tmps.getD 49 undef = .int .i64 0 := hj 6 _ _ (by decide) (by kernel_rfl) rfl rfl
      have e6 : a.tmps[49]?.getD undef = _ := (Array.getD_eq_getD_getElem? ..).symm.trans d6
      show _ = Result.ok (Go.Next.value (.int .i64 0)) w
      clear hki ho hin hk hj hR
      go_simp
    · obtain rfl := Option.some.inj ho
      refine ⟨rfl, fun a w v hR hk hj => ?_⟩
      obtain ⟨rfl, hR⟩ := hR
      have d7 : a.tmps.getD 50 undef = .bool false := hj 7 _ _ (by decide) (by kernel_rfl) rfl rfl
      have e7 : a.tmps[50]?.getD undef = _ := (Array.getD_eq_getD_getElem? ..).symm.trans d7
      show _ = Result.ok (Go.Next.value (.bool false)) w
      clear hki ho hin hk hj hR
      go_simp
  · intro a w4 v hR hsz hdf hk fin keep
    obtain ⟨tm, df⟩ := a
    obtain ⟨rfl, hR⟩ := hR
    have hx := frame_of [44, 45, 46, 47, 48, 43, 49, 50, 14, 15] (by kernel_rfl) hsz keep
    dsimp only at hdf hx hk
    simp only [List.foldl_cons, List.foldl_nil] at hx
    subst hdf
    clear hsz keep
    rw [hk] at hx
    clear hk
    generalize tm.getD 44 undef = y44 at hx
    generalize tm.getD 45 undef = y45 at hx
    generalize tm.getD 46 undef = y46 at hx
    generalize tm.getD 47 undef = y47 at hx
    have kn : tm.getD 43 undef = .tuple #[.int .i64 0, .bool false] := fin 5 _ _ (by decide) rfl rfl
    rw [kn] at hx
    clear kn
    have kn : tm.getD 49 undef = .int .i64 0 := fin 6 _ _ (by decide) rfl rfl
    rw [kn] at hx
    clear kn
    have kn : tm.getD 50 undef = .bool false := fin 7 _ _ (by decide) rfl rfl
    rw [kn] at hx
    clear kn
    have kn : tm.getD 14 undef = .int .i64 0 := fin 8 _ _ (by decide) rfl rfl
    rw [kn] at hx
    clear kn
    have kn : tm.getD 15 undef = .bool false := fin 9 _ _ (by decide) rfl rfl
    rw [kn] at hx
    clear kn
    clear fin
    simp only [List.setIfInBounds_toArray, List.set_cons_succ, List.set_cons_zero] at hx
    subst hx
    have HE := hide hR
    obtain ⟨Az, Bz, htz, _⟩ := hR.txn (i := 1) rfl HMN.out
    obtain ⟨Bb, cb2, eb⟩ := htz.s.form
    subst eb
    have s0 : w4.cell? ⟨z, 1, none⟩ = some (.slice Bb t.sv.length cb2) := htz.cells.2.2
    have cca := (hR.blk (i := 2) rfl).cell 2 _ rfl
    clear hR htz
    by_cases h1 : 1 ≤ ca
    · have hd1 : decide (1 ≤ ca) = true := decide_eq_true h1
      have hd2 : decide (ca ≤ (t.sv.length : Int)) = false := decide_eq_false (by have := HNB.out; omega)
      go_wp2
      go_quiet (fail)
      go_wp2
      exact HK.out _ _ _ _ _ _ _ _ _ _ _ _ _ _ _ _ _ _ _ _ _ _ _ _ _ _ _ _ _ _ _ _ _ _ _ _ _ _ _ _ _ _ _ _ _ _ _ _ _ _ _ _ _ _ _ _ _ _ _ _ _ _ _ _ _ _ _ _ _ _ _ _ _ _ _ _ _ _ _ _ _ _ _ _ _ _ _ _ _ _ _ _ _ _ _ _ _ _ _ _ _ _ _ _ _ _ _ _ _ _ _ _ _ _ _ _ _ _ _ _ _ _ _ _ _ _ _ _ _ _ _ _ _ _ _ _ _ _ _ _ _ _ _ _ _ _ _ _ _ _ _ _ _ _ _ _ _ _ _ _ _ _ _ _ _ _ _ _ _ _ _ _ _ _ _ _ _ _ _ _ _ _ _ _ _ _ _ _ _ _ _ _ _ _ _ _ _ _ _ _ _ _ _ _ _ _ _ (H.out.next (HE.out.below (Below.drewsN _ _)))
    · have hd1 : decide (1 ≤ ca) = false := decide_eq_false h1
      go_wp2
      go_quiet (fail)
      go_wp2
      exact HK.out _ _ _ _ _ _ _ _ _ _ _ _ _ _ _ _ _ _ _ _ _ _ _ _ _ _ _ _ _ _ _ _ _ _ _ _ _ _ _ _ _ _ _ _ _ _ _ _ _ _ _ _ _ _ _ _ _ _ _ _ _ _ _ _ _ _ _ _ _ _ _ _ _ _ _ _ _ _ _ _ _ _ _ _ _ _ _ _ _ _ _ _ _ _ _ _ _ _ _ _ _ _ _ _ _ _ _ _ _ _ _ _ _ _ _ _ _ _ _ _ _ _ _ _ _ _ _ _ _ _ _ _ _ _ _ _ _ _ _ _ _ _ _ _ _ _ _ _ _ _ _ _ _ _ _ _ _ _ _ _ _ _ _ _ _ _ _ _ _ _ _ _ _ _ _ _ _ _ _ _ _ _ _ _ _ _ _ _ _ _ _ _ _ _ _ _ _ _ _ _ _ _ _ _ _ _ _ (H.out.next (HE.out.below (Below.drewsN _ _)))
set_option maxHeartbeats 16000000 in
theorem rk5s {w0 w : World} {g mb cb n q : Nat} {R M : Tb} {ck cn ca pg sl : Int} {bf : ByteArray} {x z m i k : Nat} {t : Tx} {u0 u1 u2 u5 u9 u10 u11 u12 u13 u14 u15 u16 u17 u18 u19 u20 u21 u22 u23 u24 u25 u26 u27 u28 u29 u30 u31 u32 u33 u34 u35 u36 u37 u38 u39 u40 u41 u43 u44 u45 u46 u47 u48 u49 u50 u51 u52 u53 u54 u55 u56 u57 u58 u59 u60 u61 u62 u63 u64 u65 u66 u67 u68 u69 u70 u71 u72 u73 u74 u75 u76 u77 u78 u79 u80 u81 u82 u83 u84 u85 u86 u87 u88 u89 u90 u91 u92 u93 u94 u95 u96 u97 u98 u99 u100 u101 u102 u103 u104 u105 u106 u107 u108 u109 u110 u111 u112 u113 u114 u115 u116 u117 u118 u119 u120 u121 u122 u123 u124 u125 u126 u127 u128 u129 u130 u131 u132 u133 u134 u135 u136 u137 u138 u139 u140 u141 u142 u143 u144 u145 u146 u147 u148 u149 u150 u151 u152 u153 u154 u155 u156 u157 u158 u159 u160 u161 u162 u163 u164 u165 u166 u167 u168 u169 u170 u171 u172 u173 u174 u175 u176 u177 u178 u179 u180 u181 u182 u183 u184 u185 u186 u187 u188 u189 u190 u191 u192 u193 u194 u195 u196 u197 u198 u199 u200 u201 u202 u203 u204 u205 u206 u207 u208 u209 u210 u211 u212 u213 u214 u215 u216 u217 u218 u219 u220 u221 u222 u223 u224 u225 u226 u227 u228 u229 u230 u231 u232 u233 u234 u235 u236 u237 u238 u239 u240 u241 u242 u243 : Value} (h : RunS w0 w g mb cb #[.int .i64 ck, .int .i64 cn, .int .i64 (m : Int), .int .i64 pg, .int .i64 sl, .string bf] R M q) (hq : q ≤ 300) (hn : n < 4) (hRn : R n = some (x, t)) (hMn : M n = some (z, t)) (hm : m = i + 1) (hml : m ≤ t.sv.length) (hku : t.sv[i]? = some k) {Q : Exit → Act → World → Prop}
    (hK : ∀ (v9 v10 v11 v12 v13 v14 v15 v43 v44 v45 v46 v47 v48 v49 v50 v51 v52 v53 v54 v55 v56 v57 v58 v59 v60 v61 v62 v63 v64 v65 v66 v67 v68 v69 v70 v71 v72 v73 v74 v75 v76 v77 v78 v79 v80 v81 v82 v83 v84 v85 v86 v87 v88 v89 v90 v91 v92 v93 v94 v95 v96 v97 v98 v99 v100 v101 v102 v103 v104 v105 v106 v107 v108 v109 v110 v111 v112 v113 v114 v115 v116 v117 v118 v119 v120 v121 v122 v123 v124 v125 v126 v127 v128 v129 v130 v131 v132 v133 v134 v135 v136 v137 v138 v139 v140 v141 v142 v143 v144 v145 v146 v147 v148 v149 v150 v151 v152 v153 v154 v155 v156 v157 v158 v159 v160 v161 v162 v163 v164 v165 v166 v167 v168 v169 v170 v171 v172 v173 v174 v175 v176 v177 v178 v179 v180 v181 v182 v183 v184 v185 v186 v187 v188 v189 v190 v191 v192 v193 v194 v195 v196 v197 v198 v199 v200 v201 v202 v203 v204 v205 v206 v207 v208 v209 v210 v211 v212 v213 v214 v215 v216 v217 v218 v219 v220 v221 v222 v223 v224 v225 v226 v227 v228 v229 v230 v231 v232 v233 v234 v235 v236 v237 v238 v239 : Value) (w' : World) (R' M' : Tb), RunS w0 w' g mb cb #[.int .i64 ck, .int .i64 cn, .int .i64 (m : Int), .int .i64 pg, .int .i64 sl, .string bf] R' M' (q + 1) → Q .normal ⟨#[u0, u1, u2, .pointer (some ⟨g, 0, none⟩), .pointer (some ⟨mb, 0, none⟩), u5, .pointer (some ⟨cb, 0, none⟩), .int .i64 (n : Int), .pointer (some ⟨z, 0, none⟩), v9, v10, v11, v12, v13, v14, v15, u16, u17, u18, u19, u20, u21, u22, u23, u24, u25, u26, u27, u28, u29, u30, u31, u32, u33, u34, u35, u36, u37, u38, u39, u40, u41, .int .i64 5, v43, v44, v45, v46, v47, v48, v49, v50, v51, v52, v53, v54, v55, v56, v57, v58, v59, v60, v61, v62, v63, v64, v65, v66, v67, v68, v69, v70, v71, v72, v73, v74, v75, v76, v77, v78, v79, v80, v81, v82, v83, v84, v85, v86, v87, v88, v89, v90, v91, v92, v93, v94, v95, v96, v97, v98, v99, v100, v101, v102, v103, v104, v105, v106, v107, v108, v109, v110, v111, v112, v113, v114, v115, v116, v117, v118, v119, v120, v121, v122, v123, v124, v125, v126, v127, v128, v129, v130, v131, v132, v133, v134, v135, v136, v137, v138, v139, v140, v141, v142, v143, v144, v145, v146, v147, v148, v149, v150, v151, v152, v153, v154, v155, v156, v157, v158, v159, v160, v161, v162, v163, v164, v165, v166, v167, v168, v169, v170, v171, v172, v173, v174, v175, v176, v177, v178, v179, v180, v181, v182, v183, v184, v185, v186, v187, v188, v189, v190, v191, v192, v193, v194, v195, v196, v197, v198, v199, v200, v201, v202, v203, v204, v205, v206, v207, v208, v209, v210, v211, v212, v213, v214, v215, v216, v217, v218, v219, v220, v221, v222, v223, v224, v225, v226, v227, v228, v229, v230, v231, v232, v233, v234, v235, v236, v237, v238, v239, u240, u241, u242, u243], []⟩ w') :
    Code.wp Try.prog (subC (Try.f3.body.getD .skip) [1,1,1,1,1,0,1,0,0,1,1,0,0,1,1,1,1,0,1]) Q ⟨#[u0, u1, u2, .pointer (some ⟨g, 0, none⟩), .pointer (some ⟨mb, 0, none⟩), u5, .pointer (some ⟨cb, 0, none⟩), .int .i64 (n : Int), .pointer (some ⟨z, 0, none⟩), u9, u10, u11, u12, u13, u14, u15, u16, u17, u18, u19, u20, u21, u22, u23, u24, u25, u26, u27, u28, u29, u30, u31, u32, u33, u34, u35, u36, u37, u38, u39, u40, u41, .int .i64 5, u43, u44, u45, u46, u47, u48, u49, u50, u51, u52, u53, u54, u55, u56, u57, u58, u59, u60, u61, u62, u63, u64, u65, u66, u67, u68, u69, u70, u71, u72, u73, u74, u75, u76, u77, u78, u79, u80, u81, u82, u83, u84, u85, u86, u87, u88, u89, u90, u91, u92, u93, u94, u95, u96, u97, u98, u99, u100, u101, u102, u103, u104, u105, u106, u107, u108, u109, u110, u111, u112, u113, u114, u115, u116, u117, u118, u119, u120, u121, u122, u123, u124, u125, u126, u127, u128, u129, u130, u131, u132, u133, u134, u135, u136, u137, u138, u139, u140, u141, u142, u143, u144, u145, u146, u147, u148, u149, u150, u151, u152, u153, u154, u155, u156, u157, u158, u159, u160, u161, u162, u163, u164, u165, u166, u167, u168, u169, u170, u171, u172, u173, u174, u175, u176, u177, u178, u179, u180, u181, u182, u183, u184, u185, u186, u187, u188, u189, u190, u191, u192, u193, u194, u195, u196, u197, u198, u199, u200, u201, u202, u203, u204, u205, u206, u207, u208, u209, u210, u211, u212, u213, u214, u215, u216, u217, u218, u219, u220, u221, u222, u223, u224, u225, u226, u227, u228, u229, u230, u231, u232, u233, u234, u235, u236, u237, u238, u239, u240, u241, u242, u243], []⟩ w := by
  conv => arg 2; whnf
  have HK := hide hK
  clear hK
  have HS := hide h.ow
  have H := hide h
  have HQ : Hid (q ≤ 300) := hide hq
  have HGV : Hid (pv (R n) = .pointer (some ⟨x, 0, none⟩)) := hide (by rw [hRn]; rfl)
  have HRN := hide hRn
  have HMN := hide hMn
  have HM := hide hm
  have HML := hide hml
  have HKU := hide hku
  have hfew := h.few n x t hRn
  have HFE := hide hfew
  clear h hq hn hRn hMn hm hml hku hfew
  go_upto_region 15 with (fail)
  refine region_parts 4 48 [Say.is (.int .i64 (n : Int)), Say.is (.pointer (some ⟨x, 0, none⟩)), Say.is (.pointer (some ⟨cb, 2, none⟩)), Say.is (.int .i64 (m : Int))] (fun i v => if i = 5 then v else if i = 6 then tupPart v 0 else if i = 7 then tupPart v 1 else if i = 8 then tupPart v 0 else if i = 9 then tupPart v 1 else v) (fun v w' => v = .tuple #[.int .i64 (k : Int), .bool true] ∧ Ow w0 (fun _ => False) w' [Res.tt g (updT R n (some (x, ⟨t.l, t.ops, t.sv.take m⟩))), Res.tab layM 29 mb (M), Res.blk cb 33 #[.int .i64 ck, .int .i64 cn, .int .i64 (m : Int), .int .i64 pg, .int .i64 sl, .string bf]]) rfl rfl rfl (by kernel_rfl) (by kernel_rfl) (by kernel_rfl) (by kernel_rfl) (by kernel_rfl) ?_ ?_ ?_ ?_
  · intro i o hik ho a w2 hb hsz old dep
    match i, ho with
    | 0, ho =>
      obtain rfl := Option.some.inj ho
      have o7 : a.tmps.getD 7 undef = _ := old 7 (by kernel_rfl)
      rw [if_pos (wanted_none rfl)]
      refine grow_same (v := .int .i64 (n : Int)) ?_ rfl
      clear old dep ho hsz hb
      go_simp
    | 1, ho =>
      obtain rfl := Option.some.inj ho
      have o3 : a.tmps.getD 3 undef = _ := old 3 (by kernel_rfl)
      have d0 : a.tmps.getD 44 undef = .int .i64 (n : Int) := dep 0 _ _ (by kernel_rfl) rfl rfl
      have e0 : a.tmps[44]?.getD undef = _ := (Array.getD_eq_getD_getElem? ..).symm.trans d0
      rw [if_pos (wanted_none rfl)]
      refine grow_enters (f := 12) (args := #[.pointer (some ⟨g, 0, none⟩), .int .i64 (n : Int)]) ?_ (get_say5 HS.out (i := 0) rfl HGV.out _ hb)
      clear old dep ho hsz hb
      go_simp
    | 2, ho =>
      obtain rfl := Option.some.inj ho
      have o6 : a.tmps.getD 6 undef = _ := old 6 (by kernel_rfl)
      rw [if_pos (wanted_none rfl)]
      refine grow_same (v := .pointer (some ⟨cb, 2, none⟩)) ?_ rfl
      clear old dep ho hsz hb
      go_simp
    | 3, ho =>
      obtain rfl := Option.some.inj ho
      have d2 : a.tmps.getD 46 undef = .pointer (some ⟨cb, 2, none⟩) := dep 2 _ _ (by kernel_rfl) rfl rfl
      have e2 : a.tmps[46]?.getD undef = _ := (Array.getD_eq_getD_getElem? ..).symm.trans d2
      rw [if_pos (wanted_none rfl)]
      have c3 := ((HS.out.below hb).blk (i := 2) rfl).cell 2 _ rfl
      refine grow_same (v := .int .i64 (m : Int)) ?_ rfl
      clear old dep ho hsz hb
      go_simp
    | i + 4, ho => exact absurd hik (by omega)
  · intro a w2 hb hsz old dep
    have d1 : a.tmps.getD 45 undef = .pointer (some ⟨x, 0, none⟩) := dep 1 _ _ (by kernel_rfl) rfl rfl
    have e1 : a.tmps[45]?.getD undef = _ := (Array.getD_eq_getD_getElem? ..).symm.trans d1
    have d3 : a.tmps.getD 47 undef = .int .i64 (m : Int) := dep 3 _ _ (by kernel_rfl) rfl rfl
    have e3 : a.tmps[47]?.getD undef = _ := (Array.getD_eq_getD_getElem? ..).symm.trans d3
    refine last_enters (f := 16) (args := #[.pointer (some ⟨x, 0, none⟩), .int .i64 (m : Int)]) ?_ ((ow_back (HS.out.below hb) (i := 0) rfl HRN.out HM.out HML.out HKU.out).mono (fun e w' ⟨h1, h2⟩ => ⟨_, h1, rfl, h2⟩))
    clear old dep hsz hb
    go_simp
  · intro i o hki ho
    have hin : i < 10 := (Array.getElem?_eq_some_iff.1 ho).1
    obtain rfl | rfl | rfl | rfl | rfl : i = 5 ∨ i = 6 ∨ i = 7 ∨ i = 8 ∨ i = 9 := by omega
    · obtain rfl := Option.some.inj ho
      refine ⟨rfl, fun a w v hR hk hj => ?_⟩
      obtain ⟨rfl, hR⟩ := hR
      have d4 : a.tmps.getD 48 undef = _ := hk (by kernel_rfl)
      have e4 : a.tmps[48]?.getD undef = _ := (Array.getD_eq_getD_getElem? ..).symm.trans d4
      show _ = Result.ok (Go.Next.value (.tuple #[.int .i64 (k : Int), .bool true])) w
      clear hki ho hin hk hj hR
      go_simp
    · obtain rfl := Option.some.inj ho
      refine ⟨rfl, fun a w v hR hk hj => ?_⟩
      obtain ⟨rfl, hR⟩ := hR
      have d5 : a.tmps.getD 43 undef = .tuple #[.int .i64 (k : Int), .bool true] := hj 5 _ _ (by decide) (by kernel_rfl) rfl rfl
      have e5 : a.tmps[43]?.getD undef = _ := (Array.getD_eq_getD_getElem? ..).symm.trans d5
      show _ = Result.ok (Go.Next.value (.int .i64 (k : Int))) w
      clear hki ho hin hk hj hR
      go_simp
    · obtain rfl := Option.some.inj ho
      refine ⟨rfl, fun a w v hR hk hj => ?_⟩
      obtain ⟨rfl, hR⟩ := hR
      have d5 : a.tmps.getD 43 undef = .tuple #[.int .i64 (k : Int), .bool true] := hj 5 _ _ (by decide) (by kernel_rfl) rfl rfl
      have e5 : a.tmps[43]?.getD undef = _ := (Array.getD_eq_getD_getElem? ..).symm.trans d5
      show _ = Result.ok (Go.Next.value (.bool true)) w
      clear hki ho hin hk hj hR
      go_simp
    · obtain rfl := Option.some.inj ho
      refine ⟨rfl, fun a w v hR hk hj => ?_⟩
      obtain ⟨rfl, hR⟩ := hR
      have d6 : a.tmps.getD 49 undef = .int .i64 (k : Int) := hj 6 _ _ (by decide) (by kernel_rfl) rfl rfl
      have e6 : a.tmps[49]?.getD undef = _ := (Array.getD_eq_getD_getElem? ..).symm.trans d6
      show _ = Result.ok (Go.Next.value (.int .i64 (k : Int))) w
      clear hki ho hin hk hj hR
      go_simp
    · obtain rfl := Option.some.inj ho
      refine ⟨rfl, fun a w v hR hk hj => ?_⟩
      obtain ⟨rfl, hR⟩ := hR
      have d7 : a.tmps.getD 50 undef = .bool true := hj 7 _ _ (by decide) (by kernel_rfl) rfl rfl
      have e7 : a.tmps[50]?.getD undef = _ := (Array.getD_eq_getD_getElem? ..).symm.trans d7
      show _ = Result.ok (Go.Next.value (.bool true)) w
      clear hki ho hin hk hj hR
      go_simp
  · intro a w4 v hR hsz hdf hk fin keep
    obtain ⟨tm, df⟩ := a
    obtain ⟨rfl, hR⟩ := hR
    have hx := frame_of [44, 45, 46, 47, 48, 43, 49, 50, 14, 15] (by kernel_rfl) hsz keep
    dsimp only at hdf hx hk
    simp only [List.foldl_cons, List.foldl_nil] at hx
    subst hdf
    clear hsz keep
    rw [hk] at hx
    clear hk
    generalize tm.getD 44 undef = y44 at hx
    generalize tm.getD 45 undef = y45 at hx
    generalize tm.getD 46 undef = y46 at hx
    generalize tm.getD 47 undef = y47 at hx
    have kn : tm.getD 43 undef = .tuple #[.int .i64 (k : Int), .bool true] := fin 5 _ _ (by decide) rfl rfl
    rw [kn] at hx
    clear kn
    have kn : tm.getD 49 undef = .int .i64 (k : Int) := fin 6 _ _ (by decide) rfl rfl
    rw [kn] at hx
    clear kn
    have kn : tm.getD 50 undef = .bool true := fin 7 _ _ (by decide) rfl rfl
    rw [kn] at hx
    clear kn
    have kn : tm.getD 14 undef = .int .i64 (k : Int) := fin 8 _ _ (by decide) rfl rfl
    rw [kn] at hx
    clear kn
    have kn : tm.getD 15 undef = .bool true := fin 9 _ _ (by decide) rfl rfl
    rw [kn] at hx
    clear kn
    clear fin
    simp only [List.setIfInBounds_toArray, List.set_cons_succ, List.set_cons_zero] at hx
    subst hx
    have HE0 := hide hR
    obtain ⟨Az, Bz, htz, _⟩ := hR.txn (i := 1) rfl HMN.out
    obtain ⟨gs, cb2, eb, _⟩ := htz.s.block (by have := HML.out; have := HM.out; omega)
    subst eb
    have s0 : w4.cell? ⟨z, 1, none⟩ = some (.slice (some ⟨gs, 0, none⟩) t.sv.length cb2) := htz.cells.2.2
    have r0 : w4.cell? ⟨gs, i * 1 + 0, none⟩ = some (.int .i64 (k : Int)) := htz.s.cells HKU.out 0 _ rfl
    rw [Nat.mul_one, Nat.add_zero] at r0
    have cca := (hR.blk (i := 2) rfl).cell 2 _ rfl
    have HZL := hide htz
    have hcm2 : (i : Int) ≤ 9223372036854775807 := by
      obtain ⟨g9, c9, cur9, _, _, h8, h9, _⟩ := htz.s.open (by have := HML.out; have := HM.out; omega)
      unfold maxLen at h9
      have := HML.out
      have := HM.out
      omega
    have m1 : (m : Int) - 1 = (i : Int) := by have := HM.out; omega
    have i0 : (0 : Int) ≤ (i : Int) := by omega
    have i1 : (i : Int) < (t.sv.length : Int) := by have := HM.out; have := HML.out; omega
    have m0 : (0 : Int) ≤ (m : Int) := by omega
    have hd1 : decide (1 ≤ (m : Int)) = true := decide_eq_true (by have := HM.out; omega)
    have hd3 : decide (1 ≤ m) = true := decide_eq_true (by have := HM.out; omega)
    have hd2 : decide ((m : Int) ≤ (t.sv.length : Int)) = true := decide_eq_true (by have := HML.out; omega)
    have hd4 : decide (m ≤ t.sv.length) = true := decide_eq_true HML.out
    clear hR htz
    go_wp2
    go_quiet (fail)
    have HE := hide (HE0.out.below (Below.drewsN w4 nq))
    have HZ2 := hide (HZL.out.below (Below.drewsN w4 nq))
    generalize w4.drewN nq = w5 at *
    clear HE0 HZL s0 r0 cca hd1 hd2 hd3 hd4 hcm2
    obtain ⟨Az2, Bz2, htz, hback⟩ := HE.out.txn (i := 1) rfl HMN.out
    obtain rfl : Bz2 = .slice (some ⟨gs, 0, none⟩) t.sv.length cb2 := by
      have e1 := htz.cells.2.2
      rw [HZ2.out.cells.2.2] at e1
      exact (Option.some.inj e1).symm
    have HTZ := hide htz
    have HBK := hide hback
    have HLOW : Hid (∀ W, (Instr.slice 36 (.slice (some ⟨gs, 0, none⟩) t.sv.length cb2) none (some (.int .i64 (m : Int))) none).run Try.prog W = .ok (.slice (some ⟨gs, 0, none⟩) m cb2) W) := hide (fun W => run_lowK numK _ _ _ m (by have := htz.s.cap.2; have := HML.out; omega) W)
    clear htz hback HZ2
    go_upto_region 19 with (fail)
    refine region_store 10 [Say.is (.pointer (some ⟨z, 0, none⟩)), Say.is (.pointer (some ⟨z, 0, none⟩)), Say.is (.pointer (some ⟨z, 0, none⟩)), Say.is (.pointer (some ⟨z, 1, none⟩)), Say.is (.slice (some ⟨gs, 0, none⟩) t.sv.length cb2), Say.is (.pointer (some ⟨cb, 2, none⟩)), Say.is (.int .i64 (m : Int)), Say.is (.slice (some ⟨gs, 0, none⟩) m cb2), Say.is (.pointer (some ⟨z, 0, none⟩)), Say.is (.pointer (some ⟨z, 1, none⟩))] (fun w9 => ∃ u, Below w5.heap.size w5 u ∧ w9 = u.setCell ⟨z, 1, none⟩ (.slice (some ⟨gs, 0, none⟩) m cb2)) rfl rfl rfl rfl (by kernel_rfl) (by kernel_rfl) (by kernel_rfl) (by kernel_rfl) (by kernel_rfl) ?_ ?_ ?_
    · intro i o hik ho a w2 hb hsz old dep
      match i, ho with
      | 0, ho =>
        obtain rfl := Option.some.inj ho
        have o8 : a.tmps.getD 8 undef = _ := old 8 (by kernel_rfl)
        rw [if_pos (wanted_none rfl)]
        refine grow_same (v := .pointer (some ⟨z, 0, none⟩)) ?_ rfl
        clear old dep ho hsz hb
        go_simp
      | 1, ho =>
        obtain rfl := Option.some.inj ho
        have o8 : a.tmps.getD 8 undef = _ := old 8 (by kernel_rfl)
        rw [if_pos (wanted_none rfl)]
        refine grow_same (v := .pointer (some ⟨z, 0, none⟩)) ?_ rfl
        clear old dep ho hsz hb
        go_simp
      | 2, ho =>
        obtain rfl := Option.some.inj ho
        have d1 : a.tmps.getD 88 undef = .pointer (some ⟨z, 0, none⟩) := dep 1 _ _ (by kernel_rfl) rfl rfl
        have e1 : a.tmps[88]?.getD undef = _ := (Array.getD_eq_getD_getElem? ..).symm.trans d1
        rw [if_pos (wanted_none rfl)]
        refine grow_same (v := .pointer (some ⟨z, 0, none⟩)) ?_ rfl
        clear old dep ho hsz hb
        go_simp
      | 3, ho =>
        obtain rfl := Option.some.inj ho
        have d2 : a.tmps.getD 89 undef = .pointer (some ⟨z, 0, none⟩) := dep 2 _ _ (by kernel_rfl) rfl rfl
        have e2 : a.tmps[89]?.getD undef = _ := (Array.getD_eq_getD_getElem? ..).symm.trans d2
        rw [if_pos (wanted_none rfl)]
        refine grow_same (v := .pointer (some ⟨z, 1, none⟩)) ?_ rfl
        clear old dep ho hsz hb
        go_simp
      | 4, ho =>
        obtain rfl := Option.some.inj ho
        have d3 : a.tmps.getD 90 undef = .pointer (some ⟨z, 1, none⟩) := dep 3 _ _ (by kernel_rfl) rfl rfl
        have e3 : a.tmps[90]?.getD undef = _ := (Array.getD_eq_getD_getElem? ..).symm.trans d3
        rw [if_pos (wanted_none rfl)]
        have c0 : w2.cell? ⟨z, 1, none⟩ = _ := (HTZ.out.below hb).cells.2.2
        refine grow_same (v := .slice (some ⟨gs, 0, none⟩) t.sv.length cb2) ?_ rfl
        clear old dep ho hsz hb
        go_simp
      | 5, ho =>
        obtain rfl := Option.some.inj ho
        have o6 : a.tmps.getD 6 undef = _ := old 6 (by kernel_rfl)
        rw [if_pos (wanted_none rfl)]
        refine grow_same (v := .pointer (some ⟨cb, 2, none⟩)) ?_ rfl
        clear old dep ho hsz hb
        go_simp
      | 6, ho =>
        obtain rfl := Option.some.inj ho
        have d5 : a.tmps.getD 92 undef = .pointer (some ⟨cb, 2, none⟩) := dep 5 _ _ (by kernel_rfl) rfl rfl
        have e5 : a.tmps[92]?.getD undef = _ := (Array.getD_eq_getD_getElem? ..).symm.trans d5
        rw [if_pos (wanted_none rfl)]
        have c3 := ((HE.out.below hb).blk (i := 2) rfl).cell 2 _ rfl
        refine grow_same (v := .int .i64 (m : Int)) ?_ rfl
        clear old dep ho hsz hb
        go_simp
      | 7, ho =>
        obtain rfl := Option.some.inj ho
        have d4 : a.tmps.getD 91 undef = .slice (some ⟨gs, 0, none⟩) t.sv.length cb2 := dep 4 _ _ (by kernel_rfl) rfl rfl
        have e4 : a.tmps[91]?.getD undef = _ := (Array.getD_eq_getD_getElem? ..).symm.trans d4
        have d6 : a.tmps.getD 93 undef = .int .i64 (m : Int) := dep 6 _ _ (by kernel_rfl) rfl rfl
        have e6 : a.tmps[93]?.getD undef = _ := (Array.getD_eq_getD_getElem? ..).symm.trans d6
        rw [if_pos (wanted_none rfl)]
        have hlo := HLOW.out w2
        refine grow_same (v := .slice (some ⟨gs, 0, none⟩) m cb2) ?_ rfl
        clear old dep ho hsz hb
        go_simp
      | 8, ho =>
        obtain rfl := Option.some.inj ho
        have d0 : a.tmps.getD 87 undef = .pointer (some ⟨z, 0, none⟩) := dep 0 _ _ (by kernel_rfl) rfl rfl
        have e0 : a.tmps[87]?.getD undef = _ := (Array.getD_eq_getD_getElem? ..).symm.trans d0
        rw [if_pos (wanted_none rfl)]
        refine grow_same (v := .pointer (some ⟨z, 0, none⟩)) ?_ rfl
        clear old dep ho hsz hb
        go_simp
      | 9, ho =>
        obtain rfl := Option.some.inj ho
        have d8 : a.tmps.getD 95 undef = .pointer (some ⟨z, 0, none⟩) := dep 8 _ _ (by kernel_rfl) rfl rfl
        have e8 : a.tmps[95]?.getD undef = _ := (Array.getD_eq_getD_getElem? ..).symm.trans d8
        rw [if_pos (wanted_none rfl)]
        refine grow_same (v := .pointer (some ⟨z, 1, none⟩)) ?_ rfl
        clear old dep ho hsz hb
        go_simp
      | i + 10, ho => exact absurd hik (by omega)
    · intro a w2 hb hsz old dep
      have d7 : a.tmps.getD 94 undef = .slice (some ⟨gs, 0, none⟩) m cb2 := dep 7 _ _ (by kernel_rfl) rfl rfl
      have e7 : a.tmps[94]?.getD undef = _ := (Array.getD_eq_getD_getElem? ..).symm.trans d7
      have d9 : a.tmps.getD 96 undef = .pointer (some ⟨z, 1, none⟩) := dep 9 _ _ (by kernel_rfl) rfl rfl
      have e9 : a.tmps[96]?.getD undef = _ := (Array.getD_eq_getD_getElem? ..).symm.trans d9
      have htu := HTZ.out.below hb
      have c0 : w2.cell? ⟨z, 1, none⟩ = _ := htu.cells.2.2
      have cf := htu.blk.frozen 1
      refine ⟨w2.setCell ⟨z, 1, none⟩ (.slice (some ⟨gs, 0, none⟩) m cb2), ?_, w2, hb, rfl⟩
      clear old dep hsz hb htu
      go_simp
    · intro a w6 hR hsz hdf keep
      obtain ⟨tm, df⟩ := a
      have hx := frame_of [87, 88, 89, 90, 91, 92, 93, 94, 95, 96] (by kernel_rfl) hsz keep
      dsimp only at hdf hx
      simp only [List.foldl_cons, List.foldl_nil] at hx
      subst hdf
      clear hsz keep
      generalize tm.getD 87 undef = y87 at hx
      generalize tm.getD 88 undef = y88 at hx
      generalize tm.getD 89 undef = y89 at hx
      generalize tm.getD 90 undef = y90 at hx
      generalize tm.getD 91 undef = y91 at hx
      generalize tm.getD 92 undef = y92 at hx
      generalize tm.getD 93 undef = y93 at hx
      generalize tm.getD 94 undef = y94 at hx
      generalize tm.getD 95 undef = y95 at hx
      generalize tm.getD 96 undef = y96 at hx
      simp only [List.setIfInBounds_toArray, List.set_cons_succ, List.set_cons_zero] at hx
      subst hx
      obtain ⟨u9, hb, rfl⟩ := hR
      have hbz := hb.size
      obtain ⟨hp3, hk3, hn3⟩ := (HTZ.out.below hb).sSet (Kept.refl _ u9) ((HTZ.out.below hb).s.low (k := m) HML.out) (fun k e => .inl e)
      have HFIN := hide (HBK.out _ _ ⟨(Kept.of_below hb).trans hk3 (fun k hk => .inl hk), Az2, .slice (some ⟨gs, 0, none⟩) m cb2, hp3, fun k hk => (hn3 k hk).imp id (fun h => Nat.le_trans hbz h)⟩)
      clear hp3 hk3 hn3 hb hbz
      go_wp2
      exact HK.out _ _ _ _ _ _ _ _ _ _ _ _ _ _ _ _ _ _ _ _ _ _ _ _ _ _ _ _ _ _ _ _ _ _ _ _ _ _ _ _ _ _ _ _ _ _ _ _ _ _ _ _ _ _ _ _ _ _ _ _ _ _ _ _ _ _ _ _ _ _ _ _ _ _ _ _ _ _ _ _ _ _ _ _ _ _ _ _ _ _ _ _ _ _ _ _ _ _ _ _ _ _ _ _ _ _ _ _ _ _ _ _ _ _ _ _ _ _ _ _ _ _ _ _ _ _ _ _ _ _ _ _ _ _ _ _ _ _ _ _ _ _ _ _ _ _ _ _ _ _ _ _ _ _ _ _ _ _ _ _ _ _ _ _ _ _ _ _ _ _ _ _ _ _ _ _ _ _ _ _ _ _ _ _ _ _ _ _ _ _ _ _ _ _ _ _ _ _ _ _ _ _ _ _ _ _ _ (H.out.both (by have := HFE.out; show t.l.length ≤ _ ∧ t.ops ≤ _; omega) HFIN.out)
end Go.Proofs.Ytkegfedbffhnfaa
