/-
  RestartPlans' walk: pieces.
-/
import Derived.Test.YtoifghofkjomnaaPls12
import Derived.Test.YtoifghofkjomnaaFrom12
import Derived.BigQuiet
import Derived.Deep.CutBlock
namespace Go.Proofs.Ytoifghofkjomnaa
open Go.RowKit
set_option maxRecDepth 100000
set_option linter.unusedSimpArgs false
set_option linter.unusedVariables false

def Alike (w w2 : World) : Prop := w2 = w
set_option maxHeartbeats 16000000 in
theorem pl1 {w0 w : World} {RA RB RC RD : Res} {lb ob eb t f : Nat} {vs : Nat → Value} {os : Nat → Bool} {ls : Nat → List Ch} {x : Ei} {u0 u1 u2 u3 u4 u8 u10 u11 u12 u13 u14 u15 u16 u17 u18 u19 u20 u21 u22 u23 u24 u25 u26 u27 u28 u29 u30 u32 u33 u34 u35 u36 u37 u38 u39 u40 u41 u42 u43 u44 u45 u46 u47 u48 u49 u50 u51 u52 u53 u54 u55 u56 u57 u58 u59 u60 u61 u62 u63 u64 u65 u66 u67 u68 u69 u70 u71 u72 u73 u74 u75 u76 u77 u78 u79 u80 u81 u82 u83 u84 u85 u86 u87 u88 u89 u90 u91 u92 u93 u94 u95 u96 u97 u98 u99 u100 u101 u102 u103 u104 u105 u106 u107 u108 u109 u110 u111 u112 u113 u114 u115 u116 u117 u118 u119 u120 u121 u122 u123 u124 u125 u126 u127 u128 u129 u130 u131 u132 u133 u134 u135 u136 u137 u138 u139 u140 u141 u142 u143 u144 u145 u146 u147 u148 u149 u150 u151 u152 u153 u154 u155 u156 u157 u158 u159 u160 u161 u162 u163 u164 u165 u166 u167 u168 u169 u170 u171 u172 u173 u174 u175 : Value} (h : Ow w0 (fun _ => False) w (LQ RA RB RC RD lb ob vs vs os ls ++ [Res.blk eb 40 #[.int .i64 (x.r.k : Int), .int .i64 (t : Int), .int .i64 (x.r.p : Int), .int .i64 (x.r.s : Int), .string x.r.b, .string x.r.a, .string x.r.i, .slice x.A x.r.ds.length x.c, .int .u64 (x.pl : Int)]])) (ht : t < 8) (hl : (ls t).length ≤ 1000) (hk : x.r.k = 1) {Q : Exit → Act → World → Prop}
    (hK : ∀ (v11 v32 v33 v34 v35 v36 v37 v38 v39 v40 v41 v42 v43 v44 v45 v46 v47 v48 v49 v50 v51 v52 v53 v54 v55 v56 v57 v58 v59 v60 v61 v62 v63 v64 v65 v66 v67 v68 v69 v70 v71 v72 v73 v74 v75 v76 v77 v78 v79 v80 v81 v82 v83 v84 v85 v86 v87 v88 v89 v90 v91 v92 v93 v94 v95 v96 v97 v98 v99 v100 v101 v102 v103 v104 v105 v106 v107 v108 v109 v110 v111 : Value) (w' : World) (vs' : Nat → Value), Ow w0 (fun _ => False) w' (LQ RA RB RC RD lb ob vs' vs' os ls ++ [Res.blk eb 40 #[.int .i64 (x.r.k : Int), .int .i64 (t : Int), .int .i64 (x.r.p : Int), .int .i64 (x.r.s : Int), .string x.r.b, .string x.r.a, .string x.r.i, .slice x.A x.r.ds.length x.c, .int .u64 (x.pl : Int)]]) → Q .normal ⟨#[u0, u1, u2, u3, u4, .int .u64 (f : Int), .pointer (some ⟨lb, 0, none⟩), .pointer (some ⟨ob, 0, none⟩), u8, .pointer (some ⟨eb, 0, none⟩), u10, v11, u12, u13, u14, u15, u16, u17, u18, u19, u20, u21, u22, u23, u24, u25, u26, u27, u28, u29, u30, .int .i64 (x.r.k : Int), v32, v33, v34, v35, v36, v37, v38, v39, v40, v41, v42, v43, v44, v45, v46, v47, v48, v49, v50, v51, v52, v53, v54, v55, v56, v57, v58, v59, v60, v61, v62, v63, v64, v65, v66, v67, v68, v69, v70, v71, v72, v73, v74, v75, v76, v77, v78, v79, v80, v81, v82, v83, v84, v85, v86, v87, v88, v89, v90, v91, v92, v93, v94, v95, v96, v97, v98, v99, v100, v101, v102, v103, v104, v105, v106, v107, v108, v109, v110, v111, u112, u113, u114, u115, u116, u117, u118, u119, u120, u121, u122, u123, u124, u125, u126, u127, u128, u129, u130, u131, u132, u133, u134, u135, u136, u137, u138, u139, u140, u141, u142, u143, u144, u145, u146, u147, u148, u149, u150, u151, u152, u153, u154, u155, u156, u157, u158, u159, u160, u161, u162, u163, u164, u165, u166, u167, u168, u169, u170, u171, u172, u173, u174, u175], []⟩ w') :
    Code.wp Try.prog (subC (Try.f3.body.getD .skip) [1,1,1,1,1,1,1,1,0,1,0,0,1,1,0,0,1,1]) Q ⟨#[u0, u1, u2, u3, u4, .int .u64 (f : Int), .pointer (some ⟨lb, 0, none⟩), .pointer (some ⟨ob, 0, none⟩), u8, .pointer (some ⟨eb, 0, none⟩), u10, u11, u12, u13, u14, u15, u16, u17, u18, u19, u20, u21, u22, u23, u24, u25, u26, u27, u28, u29, u30, .int .i64 (x.r.k : Int), u32, u33, u34, u35, u36, u37, u38, u39, u40, u41, u42, u43, u44, u45, u46, u47, u48, u49, u50, u51, u52, u53, u54, u55, u56, u57, u58, u59, u60, u61, u62, u63, u64, u65, u66, u67, u68, u69, u70, u71, u72, u73, u74, u75, u76, u77, u78, u79, u80, u81, u82, u83, u84, u85, u86, u87, u88, u89, u90, u91, u92, u93, u94, u95, u96, u97, u98, u99, u100, u101, u102, u103, u104, u105, u106, u107, u108, u109, u110, u111, u112, u113, u114, u115, u116, u117, u118, u119, u120, u121, u122, u123, u124, u125, u126, u127, u128, u129, u130, u131, u132, u133, u134, u135, u136, u137, u138, u139, u140, u141, u142, u143, u144, u145, u146, u147, u148, u149, u150, u151, u152, u153, u154, u155, u156, u157, u158, u159, u160, u161, u162, u163, u164, u165, u166, u167, u168, u169, u170, u171, u172, u173, u174, u175], []⟩ w := by
  conv => arg 2; whnf
  have HK := hide hK
  clear hK
  have g2 : ((x.r.k : Int) == 2) = false := by rw [beq_eq_false_iff_ne]; omega
  have g3 : ((x.r.k : Int) == 3) = false := by rw [beq_eq_false_iff_ne]; omega
  have g4 : ((x.r.k : Int) == 4) = false := by rw [beq_eq_false_iff_ne]; omega
  have g5 : ((x.r.k : Int) == 5) = false := by rw [beq_eq_false_iff_ne]; omega
  have g6 : ((x.r.k : Int) == 6) = false := by rw [beq_eq_false_iff_ne]; omega
  have g7 : ((x.r.k : Int) == 7) = false := by rw [beq_eq_false_iff_ne]; omega
  have H := hide h
  clear h hk hl ht
  go_wp2
  exact HK.out _ _ _ _ _ _ _ _ _ _ _ _ _ _ _ _ _ _ _ _ _ _ _ _ _ _ _ _ _ _ _ _ _ _ _ _ _ _ _ _ _ _ _ _ _ _ _ _ _ _ _ _ _ _ _ _ _ _ _ _ _ _ _ _ _ _ _ _ _ _ _ _ _ _ _ _ _ _ _ _ _ _ _ (H.out)
set_option maxHeartbeats 16000000 in
theorem pl2 {w0 w : World} {RA RB RC RD : Res} {lb ob eb t f : Nat} {vs : Nat → Value} {os : Nat → Bool} {ls : Nat → List Ch} {x : Ei} {u0 u1 u2 u3 u4 u8 u10 u11 u12 u13 u14 u15 u16 u17 u18 u19 u20 u21 u22 u23 u24 u25 u26 u27 u28 u29 u30 u32 u33 u34 u35 u36 u37 u38 u39 u40 u41 u42 u43 u44 u45 u46 u47 u48 u49 u50 u51 u52 u53 u54 u55 u56 u57 u58 u59 u60 u61 u62 u63 u64 u65 u66 u67 u68 u69 u70 u71 u72 u73 u74 u75 u76 u77 u78 u79 u80 u81 u82 u83 u84 u85 u86 u87 u88 u89 u90 u91 u92 u93 u94 u95 u96 u97 u98 u99 u100 u101 u102 u103 u104 u105 u106 u107 u108 u109 u110 u111 u112 u113 u114 u115 u116 u117 u118 u119 u120 u121 u122 u123 u124 u125 u126 u127 u128 u129 u130 u131 u132 u133 u134 u135 u136 u137 u138 u139 u140 u141 u142 u143 u144 u145 u146 u147 u148 u149 u150 u151 u152 u153 u154 u155 u156 u157 u158 u159 u160 u161 u162 u163 u164 u165 u166 u167 u168 u169 u170 u171 u172 u173 u174 u175 : Value} (h : Ow w0 (fun _ => False) w (LQ RA RB RC RD lb ob vs vs os ls ++ [Res.blk eb 40 #[.int .i64 (x.r.k : Int), .int .i64 (t : Int), .int .i64 (x.r.p : Int), .int .i64 (x.r.s : Int), .string x.r.b, .string x.r.a, .string x.r.i, .slice x.A x.r.ds.length x.c, .int .u64 (x.pl : Int)]])) (ht : t < 8) (hl : (ls t).length ≤ 1000) (hk : x.r.k = 2) {Q : Exit → Act → World → Prop}
    (hK : ∀ (v11 v32 v33 v34 v35 v36 v37 v38 v39 v40 v41 v42 v43 v44 v45 v46 v47 v48 v49 v50 v51 v52 v53 v54 v55 v56 v57 v58 v59 v60 v61 v62 v63 v64 v65 v66 v67 v68 v69 v70 v71 v72 v73 v74 v75 v76 v77 v78 v79 v80 v81 v82 v83 v84 v85 v86 v87 v88 v89 v90 v91 v92 v93 v94 v95 v96 v97 v98 v99 v100 v101 v102 v103 v104 v105 v106 v107 v108 v109 v110 v111 : Value) (w' : World) (vs' : Nat → Value), Ow w0 (fun _ => False) w' (LQ RA RB RC RD lb ob vs' vs' (setN os t true) (setN ls t (ls t ++ [chOf x.r])) ++ [Res.blk eb 40 #[.int .i64 (x.r.k : Int), .int .i64 (t : Int), .int .i64 (x.r.p : Int), .int .i64 (x.r.s : Int), .string x.r.b, .string x.r.a, .string x.r.i, .slice x.A x.r.ds.length x.c, .int .u64 (x.pl : Int)]]) → Q .normal ⟨#[u0, u1, u2, u3, u4, .int .u64 (f : Int), .pointer (some ⟨lb, 0, none⟩), .pointer (some ⟨ob, 0, none⟩), u8, .pointer (some ⟨eb, 0, none⟩), u10, v11, u12, u13, u14, u15, u16, u17, u18, u19, u20, u21, u22, u23, u24, u25, u26, u27, u28, u29, u30, .int .i64 (x.r.k : Int), v32, v33, v34, v35, v36, v37, v38, v39, v40, v41, v42, v43, v44, v45, v46, v47, v48, v49, v50, v51, v52, v53, v54, v55, v56, v57, v58, v59, v60, v61, v62, v63, v64, v65, v66, v67, v68, v69, v70, v71, v72, v73, v74, v75, v76, v77, v78, v79, v80, v81, v82, v83, v84, v85, v86, v87, v88, v89, v90, v91, v92, v93, v94, v95, v96, v97, v98, v99, v100, v101, v102, v103, v104, v105, v106, v107, v108, v109, v110, v111, u112, u113, u114, u115, u116, u117, u118, u119, u120, u121, u122, u123, u124, u125, u126, u127, u128, u129, u130, u131, u132, u133, u134, u135, u136, u137, u138, u139, u140, u141, u142, u143, u144, u145, u146, u147, u148, u149, u150, u151, u152, u153, u154, u155, u156, u157, u158, u159, u160, u161, u162, u163, u164, u165, u166, u167, u168, u169, u170, u171, u172, u173, u174, u175], []⟩ w') :
    Code.wp Try.prog (subC (Try.f3.body.getD .skip) [1,1,1,1,1,1,1,1,0,1,0,0,1,1,0,0,1,1]) Q ⟨#[u0, u1, u2, u3, u4, .int .u64 (f : Int), .pointer (some ⟨lb, 0, none⟩), .pointer (some ⟨ob, 0, none⟩), u8, .pointer (some ⟨eb, 0, none⟩), u10, u11, u12, u13, u14, u15, u16, u17, u18, u19, u20, u21, u22, u23, u24, u25, u26, u27, u28, u29, u30, .int .i64 (x.r.k : Int), u32, u33, u34, u35, u36, u37, u38, u39, u40, u41, u42, u43, u44, u45, u46, u47, u48, u49, u50, u51, u52, u53, u54, u55, u56, u57, u58, u59, u60, u61, u62, u63, u64, u65, u66, u67, u68, u69, u70, u71, u72, u73, u74, u75, u76, u77, u78, u79, u80, u81, u82, u83, u84, u85, u86, u87, u88, u89, u90, u91, u92, u93, u94, u95, u96, u97, u98, u99, u100, u101, u102, u103, u104, u105, u106, u107, u108, u109, u110, u111, u112, u113, u114, u115, u116, u117, u118, u119, u120, u121, u122, u123, u124, u125, u126, u127, u128, u129, u130, u131, u132, u133, u134, u135, u136, u137, u138, u139, u140, u141, u142, u143, u144, u145, u146, u147, u148, u149, u150, u151, u152, u153, u154, u155, u156, u157, u158, u159, u160, u161, u162, u163, u164, u165, u166, u167, u168, u169, u170, u171, u172, u173, u174, u175], []⟩ w := by
  conv => arg 2; whnf
  have HK := hide hK
  clear hK
  have g2 : ((x.r.k : Int) == 2) = true := by rw [hk]; rfl
  have h4 : (t : Int) < 8 := by omega
  have h0 : (0 : Int) ≤ (t : Int) := by omega
  obtain ⟨A, c, e⟩ := (h.rowsAt (i := 6) rfl ht).form
  obtain ⟨l, hll⟩ : ∃ l, (ls t).length = l := ⟨_, rfl⟩
  rw [hll] at e
  have SD : Ow w0 (fun _ => False) w.drew (LQ RA RB RC RD lb ob vs vs os ls ++ [Res.blk eb 40 #[.int .i64 (x.r.k : Int), .int .i64 (t : Int), .int .i64 (x.r.p : Int), .int .i64 (x.r.s : Int), .string x.r.b, .string x.r.a, .string x.r.i, .slice x.A x.r.ds.length x.c, .int .u64 (x.pl : Int)]]) := h.below (Below.refl _ _).drew
  have S1 : Ow w0 (fun _ => False) (w.drew.alloc (.cells #[.int .i64 (x.r.p : Int), .int .i64 (x.r.s : Int), .string x.r.b] 42)) (LQ RA RB RC RD lb ob vs vs os ls ++ [Res.blk eb 40 #[.int .i64 (x.r.k : Int), .int .i64 (t : Int), .int .i64 (x.r.p : Int), .int .i64 (x.r.s : Int), .string x.r.b, .string x.r.a, .string x.r.i, .slice x.A x.r.ds.length x.c, .int .u64 (x.pl : Int)]]) := (SD.box 42 #[.int .i64 (x.r.p : Int), .int .i64 (x.r.s : Int), .string x.r.b]).take 8
  obtain ⟨A9, c9, w9, hrun, S9⟩ := SD.appRows (i := 6) (x := chOf x.r) (cs := #[.int .i64 (x.r.p : Int), .int .i64 (x.r.s : Int), .string x.r.b]) rfl ht e rfl (by omega) 28
  rw [hll] at hrun S9
  have S9 : Ow w0 (fun _ => False) w9 (LQ RA RB RC RD lb ob vs (setN vs t (.slice A9 (l + 1) c9)) os (setN ls t (ls t ++ [chOf x.r])) ++ [Res.blk eb 40 #[.int .i64 (x.r.k : Int), .int .i64 (t : Int), .int .i64 (x.r.p : Int), .int .i64 (x.r.s : Int), .string x.r.b, .string x.r.a, .string x.r.i, .slice x.A x.r.ds.length x.c, .int .u64 (x.pl : Int)]]) := S9
  have HRUN : Hid ((Builtin.append_ #[28, 28] 28 #[.slice A l c, .slice (some ⟨w.heap.size, 0, none⟩) 1 1]).run Try.prog (w.drew.alloc (.cells #[.int .i64 (x.r.p : Int), .int .i64 (x.r.s : Int), .string x.r.b] 42)) = .ok (.slice A9 (l + 1) c9) w9) := hide hrun
  have S4 := LQ.storeLo (t := t) S9 (.slice A9 (l + 1) c9)
  have S5 := LQ.storeOp (t := t) S4 true
  have HALL : Hid (∀ w2, (w2 = w.drew ∨ w2 = (w.drew.alloc (.cells #[.int .i64 (x.r.p : Int), .int .i64 (x.r.s : Int), .string x.r.b] 42)) ∨ w2 = w9 ∨ w2 = (w9.setCell ⟨lb, t, none⟩ (.slice A9 (l + 1) c9)) ∨ w2 = ((w9.setCell ⟨lb, t, none⟩ (.slice A9 (l + 1) c9)).setCell ⟨ob, t, none⟩ (.bool true))) → Blk w2 eb 40 #[.int .i64 (x.r.k : Int), .int .i64 (t : Int), .int .i64 (x.r.p : Int), .int .i64 (x.r.s : Int), .string x.r.b, .string x.r.a, .string x.r.i, .slice x.A x.r.ds.length x.c, .int .u64 (x.pl : Int)]) := hide (fun w2 hw => by
    rcases hw with rfl | rfl | rfl | rfl | rfl
    · exact SD.blk (i := 7) rfl
    · exact S1.blk (i := 7) rfl
    · exact S9.blk (i := 7) rfl
    · exact S4.blk (i := 7) rfl
    · exact S5.blk (i := 7) rfl)
  have HLS : Hid (∀ w2, (w2 = w.drew ∨ w2 = (w.drew.alloc (.cells #[.int .i64 (x.r.p : Int), .int .i64 (x.r.s : Int), .string x.r.b] 42))) → w2.cell? ⟨lb, t, none⟩ = some (.slice A l c)) := hide (fun w2 hw => by
    rw [← e]
    rcases hw with rfl | rfl
    · exact (LQ.cells SD ht).1
    · exact (LQ.cells S1 ht).1)
  have HC1 : Hid (w9.cell? ⟨lb, t, none⟩ = some (vs t) ∧ w9.frozen? ⟨lb, t, none⟩ = false) := hide ⟨(LQ.cells S9 ht).1, (LQ.cells S9 ht).2.2.1⟩
  have HC2 : Hid ((w9.setCell ⟨lb, t, none⟩ (.slice A9 (l + 1) c9)).cell? ⟨ob, t, none⟩ = some (.bool (os t)) ∧ (w9.setCell ⟨lb, t, none⟩ (.slice A9 (l + 1) c9)).frozen? ⟨ob, t, none⟩ = false) := hide ⟨(LQ.cells S4 ht).2.1, (LQ.cells S4 ht).2.2.2⟩
  have HQ := hide S5
  have e1 := (h.blk (i := 7) rfl).cell 0 _ rfl
  clear SD S1 S9 S4 S5 h e hll hrun hk hl ht
  go_upto_region 16 with (fail)
  refine region_phases (valV [some (.pointer (some ⟨eb, 0, none⟩)), some (.pointer (some ⟨eb, 1, none⟩)), some (.int .i64 (t : Int)), some (.pointer (some ⟨eb, 0, none⟩)), some (.pointer (some ⟨eb, 1, none⟩)), some (.int .i64 (t : Int)), some (.pointer (some ⟨eb, 0, none⟩)), some (.pointer (some ⟨eb, 1, none⟩)), some (.int .i64 (t : Int)), some (.pointer (some ⟨lb, t, none⟩)), some (.slice A l c), some (.pointer (some ⟨eb, 0, none⟩)), some (.pointer (some ⟨eb, 2, none⟩)), some (.int .i64 (x.r.p : Int)), some (.pointer (some ⟨eb, 0, none⟩)), some (.pointer (some ⟨eb, 3, none⟩)), some (.int .i64 (x.r.s : Int)), some (.pointer (some ⟨eb, 0, none⟩)), some (.pointer (some ⟨eb, 4, none⟩)), some (.string x.r.b), some (.agg #[.int .i64 (x.r.p : Int), .int .i64 (x.r.s : Int), .string x.r.b]), some (.slice (some ⟨w.heap.size, 0, none⟩) 1 1), some (.slice A9 (l + 1) c9), some (.pointer (some ⟨lb, t, none⟩)), none, some (.pointer (some ⟨ob, t, none⟩)), none]) (phased [⟨26, 25, fun _ w2 => w2 = ((w9.setCell ⟨lb, t, none⟩ (.slice A9 (l + 1) c9)).setCell ⟨ob, t, none⟩ (.bool true))⟩, ⟨24, 23, fun _ w2 => w2 = (w9.setCell ⟨lb, t, none⟩ (.slice A9 (l + 1) c9))⟩, ⟨22, 22, fun _ w2 => w2 = w9⟩, ⟨21, 21, fun _ w2 => w2 = (w.drew.alloc (.cells #[.int .i64 (x.r.p : Int), .int .i64 (x.r.s : Int), .string x.r.b] 42))⟩] (fun w2 => w2 = w.drew)) (by kernel_rfl) (by kernel_rfl) (by kernel_rfl) (by kernel_rfl) (phased_ext (by kernel_rfl)) (rfl) ?_ ?_
  · intro i o ho L a w2 hph hsz hLi hnot hyes old dep
    match i, ho with
    | 0, ho =>
      obtain rfl := Option.some.inj ho
      rw [if_pos (wanted_none rfl)]
      have o9 := old 9 (by kernel_rfl)
      refine wp_yields (v := .pointer (some ⟨eb, 0, none⟩)) (w' := w2) ?_ (fun u hu => Option.some.inj (Option.some.inj hu)) (phased_quiet hLi (by rfl) hph)
      clear dep old ho hsz hph hnot hyes hLi
      go_simp
    | 1, ho =>
      obtain rfl := Option.some.inj ho
      rw [if_pos (wanted_none rfl)]
      have d0 : a.tmps.getD 35 undef = .pointer (some ⟨eb, 0, none⟩) := dep 0 _ _ (by kernel_rfl) rfl rfl _ rfl
      have e0 : a.tmps[35]?.getD undef = .pointer (some ⟨eb, 0, none⟩) := (Array.getD_eq_getD_getElem? ..).symm.trans d0
      refine wp_yields (v := .pointer (some ⟨eb, 1, none⟩)) (w' := w2) ?_ (fun u hu => Option.some.inj (Option.some.inj hu)) (phased_quiet hLi (by rfl) hph)
      clear dep old ho hsz hph hnot hyes hLi
      go_simp
    | 2, ho =>
      obtain rfl := Option.some.inj ho
      rw [if_pos (wanted_none rfl)]
      have d1 : a.tmps.getD 36 undef = .pointer (some ⟨eb, 1, none⟩) := dep 1 _ _ (by kernel_rfl) rfl rfl _ rfl
      have e1 : a.tmps[36]?.getD undef = .pointer (some ⟨eb, 1, none⟩) := (Array.getD_eq_getD_getElem? ..).symm.trans d1
      have hR : (fun w2 => Blk w2 eb 40 #[.int .i64 (x.r.k : Int), .int .i64 (t : Int), .int .i64 (x.r.p : Int), .int .i64 (x.r.s : Int), .string x.r.b, .string x.r.a, .string x.r.i, .slice x.A x.r.ds.length x.c, .int .u64 (x.pl : Int)]) w2 := phased_all (R := fun w2 => Blk w2 eb 40 #[.int .i64 (x.r.k : Int), .int .i64 (t : Int), .int .i64 (x.r.p : Int), .int .i64 (x.r.s : Int), .string x.r.b, .string x.r.a, .string x.r.i, .slice x.A x.r.ds.length x.c, .int .u64 (x.pl : Int)]) (fun p hp => by
        simp only [List.mem_cons, List.not_mem_nil, or_false] at hp
        rcases hp with rfl | rfl | rfl | rfl <;> exact fun v w2 h => HALL.out w2 (by first | exact .inl h | exact .inr (.inl h) | exact .inr (.inr (.inl h)) | exact .inr (.inr (.inr (.inl h))) | exact .inr (.inr (.inr (.inr (h)))))) (fun w2 h => HALL.out w2 (by first | exact .inl h | exact .inr (.inl h) | exact .inr (.inr (.inl h)) | exact .inr (.inr (.inr (.inl h))) | exact .inr (.inr (.inr (.inr (h)))))) hph
      have c0 := hR.cell 1 _ rfl
      refine wp_yields (v := .int .i64 (t : Int)) (w' := w2) ?_ (fun u hu => Option.some.inj (Option.some.inj hu)) (phased_quiet hLi (by rfl) hph)
      clear dep old ho hsz hph hnot hyes hLi
      go_simp
    | 3, ho =>
      obtain rfl := Option.some.inj ho
      rw [if_pos (wanted_none rfl)]
      have o9 := old 9 (by kernel_rfl)
      refine wp_yields (v := .pointer (some ⟨eb, 0, none⟩)) (w' := w2) ?_ (fun u hu => Option.some.inj (Option.some.inj hu)) (phased_quiet hLi (by rfl) hph)
      clear dep old ho hsz hph hnot hyes hLi
      go_simp
    | 4, ho =>
      obtain rfl := Option.some.inj ho
      rw [if_pos (wanted_none rfl)]
      have d3 : a.tmps.getD 38 undef = .pointer (some ⟨eb, 0, none⟩) := dep 3 _ _ (by kernel_rfl) rfl rfl _ rfl
      have e3 : a.tmps[38]?.getD undef = .pointer (some ⟨eb, 0, none⟩) := (Array.getD_eq_getD_getElem? ..).symm.trans d3
      refine wp_yields (v := .pointer (some ⟨eb, 1, none⟩)) (w' := w2) ?_ (fun u hu => Option.some.inj (Option.some.inj hu)) (phased_quiet hLi (by rfl) hph)
      clear dep old ho hsz hph hnot hyes hLi
      go_simp
    | 5, ho =>
      obtain rfl := Option.some.inj ho
      rw [if_pos (wanted_none rfl)]
      have d4 : a.tmps.getD 39 undef = .pointer (some ⟨eb, 1, none⟩) := dep 4 _ _ (by kernel_rfl) rfl rfl _ rfl
      have e4 : a.tmps[39]?.getD undef = .pointer (some ⟨eb, 1, none⟩) := (Array.getD_eq_getD_getElem? ..).symm.trans d4
      have hR : (fun w2 => Blk w2 eb 40 #[.int .i64 (x.r.k : Int), .int .i64 (t : Int), .int .i64 (x.r.p : Int), .int .i64 (x.r.s : Int), .string x.r.b, .string x.r.a, .string x.r.i, .slice x.A x.r.ds.length x.c, .int .u64 (x.pl : Int)]) w2 := phased_all (R := fun w2 => Blk w2 eb 40 #[.int .i64 (x.r.k : Int), .int .i64 (t : Int), .int .i64 (x.r.p : Int), .int .i64 (x.r.s : Int), .string x.r.b, .string x.r.a, .string x.r.i, .slice x.A x.r.ds.length x.c, .int .u64 (x.pl : Int)]) (fun p hp => by
        simp only [List.mem_cons, List.not_mem_nil, or_false] at hp
        rcases hp with rfl | rfl | rfl | rfl <;> exact fun v w2 h => HALL.out w2 (by first | exact .inl h | exact .inr (.inl h) | exact .inr (.inr (.inl h)) | exact .inr (.inr (.inr (.inl h))) | exact .inr (.inr (.inr (.inr (h)))))) (fun w2 h => HALL.out w2 (by first | exact .inl h | exact .inr (.inl h) | exact .inr (.inr (.inl h)) | exact .inr (.inr (.inr (.inl h))) | exact .inr (.inr (.inr (.inr (h)))))) hph
      have c0 := hR.cell 1 _ rfl
      refine wp_yields (v := .int .i64 (t : Int)) (w' := w2) ?_ (fun u hu => Option.some.inj (Option.some.inj hu)) (phased_quiet hLi (by rfl) hph)
      clear dep old ho hsz hph hnot hyes hLi
      go_simp
    | 6, ho =>
      obtain rfl := Option.some.inj ho
      rw [if_pos (wanted_none rfl)]
      have o9 := old 9 (by kernel_rfl)
      refine wp_yields (v := .pointer (some ⟨eb, 0, none⟩)) (w' := w2) ?_ (fun u hu => Option.some.inj (Option.some.inj hu)) (phased_quiet hLi (by rfl) hph)
      clear dep old ho hsz hph hnot hyes hLi
      go_simp
    | 7, ho =>
      obtain rfl := Option.some.inj ho
      rw [if_pos (wanted_none rfl)]
      have d6 : a.tmps.getD 41 undef = .pointer (some ⟨eb, 0, none⟩) := dep 6 _ _ (by kernel_rfl) rfl rfl _ rfl
      have e6 : a.tmps[41]?.getD undef = .pointer (some ⟨eb, 0, none⟩) := (Array.getD_eq_getD_getElem? ..).symm.trans d6
      refine wp_yields (v := .pointer (some ⟨eb, 1, none⟩)) (w' := w2) ?_ (fun u hu => Option.some.inj (Option.some.inj hu)) (phased_quiet hLi (by rfl) hph)
      clear dep old ho hsz hph hnot hyes hLi
      go_simp
    | 8, ho =>
      obtain rfl := Option.some.inj ho
      rw [if_pos (wanted_none rfl)]
      have d7 : a.tmps.getD 42 undef = .pointer (some ⟨eb, 1, none⟩) := dep 7 _ _ (by kernel_rfl) rfl rfl _ rfl
      have e7 : a.tmps[42]?.getD undef = .pointer (some ⟨eb, 1, none⟩) := (Array.getD_eq_getD_getElem? ..).symm.trans d7
      have hR : (fun w2 => Blk w2 eb 40 #[.int .i64 (x.r.k : Int), .int .i64 (t : Int), .int .i64 (x.r.p : Int), .int .i64 (x.r.s : Int), .string x.r.b, .string x.r.a, .string x.r.i, .slice x.A x.r.ds.length x.c, .int .u64 (x.pl : Int)]) w2 := phased_all (R := fun w2 => Blk w2 eb 40 #[.int .i64 (x.r.k : Int), .int .i64 (t : Int), .int .i64 (x.r.p : Int), .int .i64 (x.r.s : Int), .string x.r.b, .string x.r.a, .string x.r.i, .slice x.A x.r.ds.length x.c, .int .u64 (x.pl : Int)]) (fun p hp => by
        simp only [List.mem_cons, List.not_mem_nil, or_false] at hp
        rcases hp with rfl | rfl | rfl | rfl <;> exact fun v w2 h => HALL.out w2 (by first | exact .inl h | exact .inr (.inl h) | exact .inr (.inr (.inl h)) | exact .inr (.inr (.inr (.inl h))) | exact .inr (.inr (.inr (.inr (h)))))) (fun w2 h => HALL.out w2 (by first | exact .inl h | exact .inr (.inl h) | exact .inr (.inr (.inl h)) | exact .inr (.inr (.inr (.inl h))) | exact .inr (.inr (.inr (.inr (h)))))) hph
      have c0 := hR.cell 1 _ rfl
      refine wp_yields (v := .int .i64 (t : Int)) (w' := w2) ?_ (fun u hu => Option.some.inj (Option.some.inj hu)) (phased_quiet hLi (by rfl) hph)
      clear dep old ho hsz hph hnot hyes hLi
      go_simp
    | 9, ho =>
      obtain rfl := Option.some.inj ho
      rw [if_pos (wanted_none rfl)]
      have o6 := old 6 (by kernel_rfl)
      have d8 : a.tmps.getD 43 undef = .int .i64 (t : Int) := dep 8 _ _ (by kernel_rfl) rfl rfl _ rfl
      have e8 : a.tmps[43]?.getD undef = .int .i64 (t : Int) := (Array.getD_eq_getD_getElem? ..).symm.trans d8
      refine wp_yields (v := .pointer (some ⟨lb, t, none⟩)) (w' := w2) ?_ (fun u hu => Option.some.inj (Option.some.inj hu)) (phased_quiet hLi (by rfl) hph)
      clear dep old ho hsz hph hnot hyes hLi
      go_simp
    | 10, ho =>
      obtain rfl := Option.some.inj ho
      rw [if_pos (wanted_none rfl)]
      have d9 : a.tmps.getD 44 undef = .pointer (some ⟨lb, t, none⟩) := dep 9 _ _ (by kernel_rfl) rfl rfl _ rfl
      have e9 : a.tmps[44]?.getD undef = .pointer (some ⟨lb, t, none⟩) := (Array.getD_eq_getD_getElem? ..).symm.trans d9
      unfold phased at hph
      rw [if_neg (by rw [hnot 26 (by kernel_rfl)]; decide)] at hph
      unfold phased at hph
      rw [if_neg (by rw [hnot 24 (by kernel_rfl)]; decide)] at hph
      unfold phased at hph
      rw [if_neg (by rw [hnot 22 (by kernel_rfl)]; decide)] at hph
      have hw : w2 = w.drew ∨ w2 = (w.drew.alloc (.cells #[.int .i64 (x.r.p : Int), .int .i64 (x.r.s : Int), .string x.r.b] 42)) := by
        unfold phased at hph
        split at hph
        · exact .inr hph.2
        · exact .inl hph
      have c0 := HLS.out w2 hw
      refine wp_yields (v := .slice A l c) (w' := w2) ?_ (fun u hu => Option.some.inj (Option.some.inj hu)) (phased_quiet hLi (by rfl) (by unfold phased; rw [if_neg (by rw [hnot 26 (by kernel_rfl)]; decide)]; unfold phased; rw [if_neg (by rw [hnot 24 (by kernel_rfl)]; decide)]; unfold phased; rw [if_neg (by rw [hnot 22 (by kernel_rfl)]; decide)]; exact hph))
      clear hw
      clear dep old ho hsz hnot hyes hLi
      clear hph
      go_simp
    | 11, ho =>
      obtain rfl := Option.some.inj ho
      rw [if_pos (wanted_none rfl)]
      have o9 := old 9 (by kernel_rfl)
      refine wp_yields (v := .pointer (some ⟨eb, 0, none⟩)) (w' := w2) ?_ (fun u hu => Option.some.inj (Option.some.inj hu)) (phased_quiet hLi (by rfl) hph)
      clear dep old ho hsz hph hnot hyes hLi
      go_simp
    | 12, ho =>
      obtain rfl := Option.some.inj ho
      rw [if_pos (wanted_none rfl)]
      have d11 : a.tmps.getD 46 undef = .pointer (some ⟨eb, 0, none⟩) := dep 11 _ _ (by kernel_rfl) rfl rfl _ rfl
      have e11 : a.tmps[46]?.getD undef = .pointer (some ⟨eb, 0, none⟩) := (Array.getD_eq_getD_getElem? ..).symm.trans d11
      refine wp_yields (v := .pointer (some ⟨eb, 2, none⟩)) (w' := w2) ?_ (fun u hu => Option.some.inj (Option.some.inj hu)) (phased_quiet hLi (by rfl) hph)
      clear dep old ho hsz hph hnot hyes hLi
      go_simp
    | 13, ho =>
      obtain rfl := Option.some.inj ho
      rw [if_pos (wanted_none rfl)]
      have d12 : a.tmps.getD 47 undef = .pointer (some ⟨eb, 2, none⟩) := dep 12 _ _ (by kernel_rfl) rfl rfl _ rfl
      have e12 : a.tmps[47]?.getD undef = .pointer (some ⟨eb, 2, none⟩) := (Array.getD_eq_getD_getElem? ..).symm.trans d12
      have hR : (fun w2 => Blk w2 eb 40 #[.int .i64 (x.r.k : Int), .int .i64 (t : Int), .int .i64 (x.r.p : Int), .int .i64 (x.r.s : Int), .string x.r.b, .string x.r.a, .string x.r.i, .slice x.A x.r.ds.length x.c, .int .u64 (x.pl : Int)]) w2 := phased_all (R := fun w2 => Blk w2 eb 40 #[.int .i64 (x.r.k : Int), .int .i64 (t : Int), .int .i64 (x.r.p : Int), .int .i64 (x.r.s : Int), .string x.r.b, .string x.r.a, .string x.r.i, .slice x.A x.r.ds.length x.c, .int .u64 (x.pl : Int)]) (fun p hp => by
        simp only [List.mem_cons, List.not_mem_nil, or_false] at hp
        rcases hp with rfl | rfl | rfl | rfl <;> exact fun v w2 h => HALL.out w2 (by first | exact .inl h | exact .inr (.inl h) | exact .inr (.inr (.inl h)) | exact .inr (.inr (.inr (.inl h))) | exact .inr (.inr (.inr (.inr (h)))))) (fun w2 h => HALL.out w2 (by first | exact .inl h | exact .inr (.inl h) | exact .inr (.inr (.inl h)) | exact .inr (.inr (.inr (.inl h))) | exact .inr (.inr (.inr (.inr (h)))))) hph
      have c0 := hR.cell 2 _ rfl
      refine wp_yields (v := .int .i64 (x.r.p : Int)) (w' := w2) ?_ (fun u hu => Option.some.inj (Option.some.inj hu)) (phased_quiet hLi (by rfl) hph)
      clear dep old ho hsz hph hnot hyes hLi
      go_simp
    | 14, ho =>
      obtain rfl := Option.some.inj ho
      rw [if_pos (wanted_none rfl)]
      have o9 := old 9 (by kernel_rfl)
      refine wp_yields (v := .pointer (some ⟨eb, 0, none⟩)) (w' := w2) ?_ (fun u hu => Option.some.inj (Option.some.inj hu)) (phased_quiet hLi (by rfl) hph)
      clear dep old ho hsz hph hnot hyes hLi
      go_simp
    | 15, ho =>
      obtain rfl := Option.some.inj ho
      rw [if_pos (wanted_none rfl)]
      have d14 : a.tmps.getD 49 undef = .pointer (some ⟨eb, 0, none⟩) := dep 14 _ _ (by kernel_rfl) rfl rfl _ rfl
      have e14 : a.tmps[49]?.getD undef = .pointer (some ⟨eb, 0, none⟩) := (Array.getD_eq_getD_getElem? ..).symm.trans d14
      refine wp_yields (v := .pointer (some ⟨eb, 3, none⟩)) (w' := w2) ?_ (fun u hu => Option.some.inj (Option.some.inj hu)) (phased_quiet hLi (by rfl) hph)
      clear dep old ho hsz hph hnot hyes hLi
      go_simp
    | 16, ho =>
      obtain rfl := Option.some.inj ho
      rw [if_pos (wanted_none rfl)]
      have d15 : a.tmps.getD 50 undef = .pointer (some ⟨eb, 3, none⟩) := dep 15 _ _ (by kernel_rfl) rfl rfl _ rfl
      have e15 : a.tmps[50]?.getD undef = .pointer (some ⟨eb, 3, none⟩) := (Array.getD_eq_getD_getElem? ..).symm.trans d15
      have hR : (fun w2 => Blk w2 eb 40 #[.int .i64 (x.r.k : Int), .int .i64 (t : Int), .int .i64 (x.r.p : Int), .int .i64 (x.r.s : Int), .string x.r.b, .string x.r.a, .string x.r.i, .slice x.A x.r.ds.length x.c, .int .u64 (x.pl : Int)]) w2 := phased_all (R := fun w2 => Blk w2 eb 40 #[.int .i64 (x.r.k : Int), .int .i64 (t : Int), .int .i64 (x.r.p : Int), .int .i64 (x.r.s : Int), .string x.r.b, .string x.r.a, .string x.r.i, .slice x.A x.r.ds.length x.c, .int .u64 (x.pl : Int)]) (fun p hp => by
        simp only [List.mem_cons, List.not_mem_nil, or_false] at hp
        rcases hp with rfl | rfl | rfl | rfl <;> exact fun v w2 h => HALL.out w2 (by first | exact .inl h | exact .inr (.inl h) | exact .inr (.inr (.inl h)) | exact .inr (.inr (.inr (.inl h))) | exact .inr (.inr (.inr (.inr (h)))))) (fun w2 h => HALL.out w2 (by first | exact .inl h | exact .inr (.inl h) | exact .inr (.inr (.inl h)) | exact .inr (.inr (.inr (.inl h))) | exact .inr (.inr (.inr (.inr (h)))))) hph
      have c0 := hR.cell 3 _ rfl
      refine wp_yields (v := .int .i64 (x.r.s : Int)) (w' := w2) ?_ (fun u hu => Option.some.inj (Option.some.inj hu)) (phased_quiet hLi (by rfl) hph)
      clear dep old ho hsz hph hnot hyes hLi
      go_simp
    | 17, ho =>
      obtain rfl := Option.some.inj ho
      rw [if_pos (wanted_none rfl)]
      have o9 := old 9 (by kernel_rfl)
      refine wp_yields (v := .pointer (some ⟨eb, 0, none⟩)) (w' := w2) ?_ (fun u hu => Option.some.inj (Option.some.inj hu)) (phased_quiet hLi (by rfl) hph)
      clear dep old ho hsz hph hnot hyes hLi
      go_simp
    | 18, ho =>
      obtain rfl := Option.some.inj ho
      rw [if_pos (wanted_none rfl)]
      have d17 : a.tmps.getD 52 undef = .pointer (some ⟨eb, 0, none⟩) := dep 17 _ _ (by kernel_rfl) rfl rfl _ rfl
      have e17 : a.tmps[52]?.getD undef = .pointer (some ⟨eb, 0, none⟩) := (Array.getD_eq_getD_getElem? ..).symm.trans d17
      refine wp_yields (v := .pointer (some ⟨eb, 4, none⟩)) (w' := w2) ?_ (fun u hu => Option.some.inj (Option.some.inj hu)) (phased_quiet hLi (by rfl) hph)
      clear dep old ho hsz hph hnot hyes hLi
      go_simp
    | 19, ho =>
      obtain rfl := Option.some.inj ho
      rw [if_pos (wanted_none rfl)]
      have d18 : a.tmps.getD 53 undef = .pointer (some ⟨eb, 4, none⟩) := dep 18 _ _ (by kernel_rfl) rfl rfl _ rfl
      have e18 : a.tmps[53]?.getD undef = .pointer (some ⟨eb, 4, none⟩) := (Array.getD_eq_getD_getElem? ..).symm.trans d18
      have hR : (fun w2 => Blk w2 eb 40 #[.int .i64 (x.r.k : Int), .int .i64 (t : Int), .int .i64 (x.r.p : Int), .int .i64 (x.r.s : Int), .string x.r.b, .string x.r.a, .string x.r.i, .slice x.A x.r.ds.length x.c, .int .u64 (x.pl : Int)]) w2 := phased_all (R := fun w2 => Blk w2 eb 40 #[.int .i64 (x.r.k : Int), .int .i64 (t : Int), .int .i64 (x.r.p : Int), .int .i64 (x.r.s : Int), .string x.r.b, .string x.r.a, .string x.r.i, .slice x.A x.r.ds.length x.c, .int .u64 (x.pl : Int)]) (fun p hp => by
        simp only [List.mem_cons, List.not_mem_nil, or_false] at hp
        rcases hp with rfl | rfl | rfl | rfl <;> exact fun v w2 h => HALL.out w2 (by first | exact .inl h | exact .inr (.inl h) | exact .inr (.inr (.inl h)) | exact .inr (.inr (.inr (.inl h))) | exact .inr (.inr (.inr (.inr (h)))))) (fun w2 h => HALL.out w2 (by first | exact .inl h | exact .inr (.inl h) | exact .inr (.inr (.inl h)) | exact .inr (.inr (.inr (.inl h))) | exact .inr (.inr (.inr (.inr (h)))))) hph
      have c0 := hR.cell 4 _ rfl
      refine wp_yields (v := .string x.r.b) (w' := w2) ?_ (fun u hu => Option.some.inj (Option.some.inj hu)) (phased_quiet hLi (by rfl) hph)
      clear dep old ho hsz hph hnot hyes hLi
      go_simp
    | 20, ho =>
      obtain rfl := Option.some.inj ho
      rw [if_pos (wanted_none rfl)]
      have d13 : a.tmps.getD 48 undef = .int .i64 (x.r.p : Int) := dep 13 _ _ (by kernel_rfl) rfl rfl _ rfl
      have e13 : a.tmps[48]?.getD undef = .int .i64 (x.r.p : Int) := (Array.getD_eq_getD_getElem? ..).symm.trans d13
      have d16 : a.tmps.getD 51 undef = .int .i64 (x.r.s : Int) := dep 16 _ _ (by kernel_rfl) rfl rfl _ rfl
      have e16 : a.tmps[51]?.getD undef = .int .i64 (x.r.s : Int) := (Array.getD_eq_getD_getElem? ..).symm.trans d16
      have d19 : a.tmps.getD 54 undef = .string x.r.b := dep 19 _ _ (by kernel_rfl) rfl rfl _ rfl
      have e19 : a.tmps[54]?.getD undef = .string x.r.b := (Array.getD_eq_getD_getElem? ..).symm.trans d19
      refine wp_yields (v := .agg #[.int .i64 (x.r.p : Int), .int .i64 (x.r.s : Int), .string x.r.b]) (w' := w2) ?_ (fun u hu => Option.some.inj (Option.some.inj hu)) (phased_quiet hLi (by rfl) hph)
      clear dep old ho hsz hph hnot hyes hLi
      go_simp
    | 21, ho =>
      obtain rfl := Option.some.inj ho
      rw [if_pos (wanted_none rfl)]
      have d20 : a.tmps.getD 55 undef = .agg #[.int .i64 (x.r.p : Int), .int .i64 (x.r.s : Int), .string x.r.b] := dep 20 _ _ (by kernel_rfl) rfl rfl _ rfl
      have e20 : a.tmps[55]?.getD undef = .agg #[.int .i64 (x.r.p : Int), .int .i64 (x.r.s : Int), .string x.r.b] := (Array.getD_eq_getD_getElem? ..).symm.trans d20
      have hnt26 := hnot 26 (by kernel_rfl)
      have hnt24 := hnot 24 (by kernel_rfl)
      have hnt22 := hnot 22 (by kernel_rfl)
      unfold phased at hph
      rw [if_neg (by rw [hnot 26 (by kernel_rfl)]; decide)] at hph
      unfold phased at hph
      rw [if_neg (by rw [hnot 24 (by kernel_rfl)]; decide)] at hph
      unfold phased at hph
      rw [if_neg (by rw [hnot 22 (by kernel_rfl)]; decide)] at hph
      unfold phased at hph
      rw [if_neg (by rw [hLi]; decide)] at hph
      unfold phased at hph
      obtain rfl : w2 = w.drew := hph
      refine wp_yields (v := .slice (some ⟨w.heap.size, 0, none⟩) 1 1) (w' := (w.drew.alloc (.cells #[.int .i64 (x.r.p : Int), .int .i64 (x.r.s : Int), .string x.r.b] 42))) ?_ (fun u hu => Option.some.inj (Option.some.inj hu)) ?_
      · clear hnt26 hnt24 hnt22
        clear dep old ho hsz hnot hyes hLi
        go_simp
      · unfold phased
        rw [if_neg (by simp [also, hnt26])]
        unfold phased
        rw [if_neg (by simp [also, hnt24])]
        unfold phased
        rw [if_neg (by simp [also, hnt22])]
        unfold phased
        rw [if_pos (by simp [also])]
        exact ⟨by simp [also], rfl⟩
    | 22, ho =>
      obtain rfl := Option.some.inj ho
      rw [if_pos (wanted_none rfl)]
      have d10 : a.tmps.getD 45 undef = .slice A l c := dep 10 _ _ (by kernel_rfl) rfl rfl _ rfl
      have e10 : a.tmps[45]?.getD undef = .slice A l c := (Array.getD_eq_getD_getElem? ..).symm.trans d10
      have d21 : a.tmps.getD 56 undef = .slice (some ⟨w.heap.size, 0, none⟩) 1 1 := dep 21 _ _ (by kernel_rfl) rfl rfl _ rfl
      have e21 : a.tmps[56]?.getD undef = .slice (some ⟨w.heap.size, 0, none⟩) 1 1 := (Array.getD_eq_getD_getElem? ..).symm.trans d21
      have hnt26 := hnot 26 (by kernel_rfl)
      have hnt24 := hnot 24 (by kernel_rfl)
      unfold phased at hph
      rw [if_neg (by rw [hnot 26 (by kernel_rfl)]; decide)] at hph
      unfold phased at hph
      rw [if_neg (by rw [hnot 24 (by kernel_rfl)]; decide)] at hph
      unfold phased at hph
      rw [if_neg (by rw [hLi]; decide)] at hph
      unfold phased at hph
      rw [if_pos (hyes 21 (by kernel_rfl))] at hph
      obtain rfl : w2 = (w.drew.alloc (.cells #[.int .i64 (x.r.p : Int), .int .i64 (x.r.s : Int), .string x.r.b] 42)) := hph.2
      have hr := HRUN.out
      refine wp_yields (v := .slice A9 (l + 1) c9) (w' := w9) (exec_append_run (.tmp 45) (.tmp 56) _ rfl d10 d21 hr) (fun u hu => Option.some.inj (Option.some.inj hu)) ?_
      unfold phased
      rw [if_neg (by simp [also, hnt26])]
      unfold phased
      rw [if_neg (by simp [also, hnt24])]
      unfold phased
      rw [if_pos (by simp [also])]
      exact ⟨by simp [also], rfl⟩
    | 23, ho =>
      obtain rfl := Option.some.inj ho
      rw [if_pos (wanted_none rfl)]
      have o6 := old 6 (by kernel_rfl)
      have d2 : a.tmps.getD 37 undef = .int .i64 (t : Int) := dep 2 _ _ (by kernel_rfl) rfl rfl _ rfl
      have e2 : a.tmps[37]?.getD undef = .int .i64 (t : Int) := (Array.getD_eq_getD_getElem? ..).symm.trans d2
      refine wp_yields (v := .pointer (some ⟨lb, t, none⟩)) (w' := w2) ?_ (fun u hu => Option.some.inj (Option.some.inj hu)) (phased_quiet hLi (by rfl) hph)
      clear dep old ho hsz hph hnot hyes hLi
      go_simp
    | 24, ho =>
      obtain rfl := Option.some.inj ho
      rw [if_pos (wanted_none rfl)]
      have d22 : a.tmps.getD 57 undef = .slice A9 (l + 1) c9 := dep 22 _ _ (by kernel_rfl) rfl rfl _ rfl
      have e22 : a.tmps[57]?.getD undef = .slice A9 (l + 1) c9 := (Array.getD_eq_getD_getElem? ..).symm.trans d22
      have d23 : a.tmps.getD 58 undef = .pointer (some ⟨lb, t, none⟩) := dep 23 _ _ (by kernel_rfl) rfl rfl _ rfl
      have e23 : a.tmps[58]?.getD undef = .pointer (some ⟨lb, t, none⟩) := (Array.getD_eq_getD_getElem? ..).symm.trans d23
      have hnt26 := hnot 26 (by kernel_rfl)
      unfold phased at hph
      rw [if_neg (by rw [hnot 26 (by kernel_rfl)]; decide)] at hph
      unfold phased at hph
      rw [if_neg (by rw [hLi]; decide)] at hph
      unfold phased at hph
      rw [if_pos (hyes 22 (by kernel_rfl))] at hph
      obtain rfl : w9 = w2 := hph.2.symm
      obtain ⟨c0, f0⟩ := HC1.out
      refine wp_skips (w' := (w9.setCell ⟨lb, t, none⟩ (.slice A9 (l + 1) c9))) ?_ (fun u hu => by cases Option.some.inj hu) ?_
      · clear hnt26 hph
        clear dep old ho hsz hnot hyes hLi
        go_simp
      · unfold phased
        rw [if_neg (by simp [also, hnt26])]
        unfold phased
        rw [if_pos (by simp [also])]
        exact ⟨by simp [also, hyes 23 (by kernel_rfl)], rfl⟩
    | 25, ho =>
      obtain rfl := Option.some.inj ho
      rw [if_pos (wanted_none rfl)]
      have o7 := old 7 (by kernel_rfl)
      have d5 : a.tmps.getD 40 undef = .int .i64 (t : Int) := dep 5 _ _ (by kernel_rfl) rfl rfl _ rfl
      have e5 : a.tmps[40]?.getD undef = .int .i64 (t : Int) := (Array.getD_eq_getD_getElem? ..).symm.trans d5
      refine wp_yields (v := .pointer (some ⟨ob, t, none⟩)) (w' := w2) ?_ (fun u hu => Option.some.inj (Option.some.inj hu)) (phased_quiet hLi (by rfl) hph)
      clear dep old ho hsz hph hnot hyes hLi
      go_simp
    | 26, ho =>
      obtain rfl := Option.some.inj ho
      rw [if_pos (wanted_none rfl)]
      have d25 : a.tmps.getD 59 undef = .pointer (some ⟨ob, t, none⟩) := dep 25 _ _ (by kernel_rfl) rfl rfl _ rfl
      have e25 : a.tmps[59]?.getD undef = .pointer (some ⟨ob, t, none⟩) := (Array.getD_eq_getD_getElem? ..).symm.trans d25
      unfold phased at hph
      rw [if_neg (by rw [hLi]; decide)] at hph
      unfold phased at hph
      rw [if_pos (hyes 24 (by kernel_rfl))] at hph
      obtain rfl : w2 = (w9.setCell ⟨lb, t, none⟩ (.slice A9 (l + 1) c9)) := hph.2
      obtain ⟨c0, f0⟩ := HC2.out
      refine wp_skips (w' := ((w9.setCell ⟨lb, t, none⟩ (.slice A9 (l + 1) c9)).setCell ⟨ob, t, none⟩ (.bool true))) ?_ (fun u hu => by cases Option.some.inj hu) ?_
      · clear hph
        clear dep old ho hsz hnot hyes hLi
        go_simp
      · unfold phased
        rw [if_pos (by simp [also])]
        exact ⟨by simp [also, hyes 25 (by kernel_rfl)], rfl⟩
    | i + 27, ho => exact absurd ho (by simp)
  · intro a w4 hph hsz hdf fin keep
    obtain ⟨tm, df⟩ := a
    have hx := frame_of [35, 36, 37, 38, 39, 40, 41, 42, 43, 44, 45, 46, 47, 48, 49, 50, 51, 52, 53, 54, 55, 56, 57, 58, 59] (by kernel_rfl) hsz keep
    dsimp only at hdf hx
    simp only [List.foldl_cons, List.foldl_nil] at hx
    subst hdf
    clear hsz keep
    have kn : tm.getD 35 undef = .pointer (some ⟨eb, 0, none⟩) := fin 0 _ _ rfl rfl _ rfl
    rw [kn] at hx
    clear kn
    have kn : tm.getD 36 undef = .pointer (some ⟨eb, 1, none⟩) := fin 1 _ _ rfl rfl _ rfl
    rw [kn] at hx
    clear kn
    have kn : tm.getD 37 undef = .int .i64 (t : Int) := fin 2 _ _ rfl rfl _ rfl
    rw [kn] at hx
    clear kn
    have kn : tm.getD 38 undef = .pointer (some ⟨eb, 0, none⟩) := fin 3 _ _ rfl rfl _ rfl
    rw [kn] at hx
    clear kn
    have kn : tm.getD 39 undef = .pointer (some ⟨eb, 1, none⟩) := fin 4 _ _ rfl rfl _ rfl
    rw [kn] at hx
    clear kn
    have kn : tm.getD 40 undef = .int .i64 (t : Int) := fin 5 _ _ rfl rfl _ rfl
    rw [kn] at hx
    clear kn
    have kn : tm.getD 41 undef = .pointer (some ⟨eb, 0, none⟩) := fin 6 _ _ rfl rfl _ rfl
    rw [kn] at hx
    clear kn
    have kn : tm.getD 42 undef = .pointer (some ⟨eb, 1, none⟩) := fin 7 _ _ rfl rfl _ rfl
    rw [kn] at hx
    clear kn
    have kn : tm.getD 43 undef = .int .i64 (t : Int) := fin 8 _ _ rfl rfl _ rfl
    rw [kn] at hx
    clear kn
    have kn : tm.getD 44 undef = .pointer (some ⟨lb, t, none⟩) := fin 9 _ _ rfl rfl _ rfl
    rw [kn] at hx
    clear kn
    have kn : tm.getD 45 undef = .slice A l c := fin 10 _ _ rfl rfl _ rfl
    rw [kn] at hx
    clear kn
    have kn : tm.getD 46 undef = .pointer (some ⟨eb, 0, none⟩) := fin 11 _ _ rfl rfl _ rfl
    rw [kn] at hx
    clear kn
    have kn : tm.getD 47 undef = .pointer (some ⟨eb, 2, none⟩) := fin 12 _ _ rfl rfl _ rfl
    rw [kn] at hx
    clear kn
    have kn : tm.getD 48 undef = .int .i64 (x.r.p : Int) := fin 13 _ _ rfl rfl _ rfl
    rw [kn] at hx
    clear kn
    have kn : tm.getD 49 undef = .pointer (some ⟨eb, 0, none⟩) := fin 14 _ _ rfl rfl _ rfl
    rw [kn] at hx
    clear kn
    have kn : tm.getD 50 undef = .pointer (some ⟨eb, 3, none⟩) := fin 15 _ _ rfl rfl _ rfl
    rw [kn] at hx
    clear kn
    have kn : tm.getD 51 undef = .int .i64 (x.r.s : Int) := fin 16 _ _ rfl rfl _ rfl
    rw [kn] at hx
    clear kn
    have kn : tm.getD 52 undef = .pointer (some ⟨eb, 0, none⟩) := fin 17 _ _ rfl rfl _ rfl
    rw [kn] at hx
    clear kn
    have kn : tm.getD 53 undef = .pointer (some ⟨eb, 4, none⟩) := fin 18 _ _ rfl rfl _ rfl
    rw [kn] at hx
    clear kn
    have kn : tm.getD 54 undef = .string x.r.b := fin 19 _ _ rfl rfl _ rfl
    rw [kn] at hx
    clear kn
    have kn : tm.getD 55 undef = .agg #[.int .i64 (x.r.p : Int), .int .i64 (x.r.s : Int), .string x.r.b] := fin 20 _ _ rfl rfl _ rfl
    rw [kn] at hx
    clear kn
    have kn : tm.getD 56 undef = .slice (some ⟨w.heap.size, 0, none⟩) 1 1 := fin 21 _ _ rfl rfl _ rfl
    rw [kn] at hx
    clear kn
    have kn : tm.getD 57 undef = .slice A9 (l + 1) c9 := fin 22 _ _ rfl rfl _ rfl
    rw [kn] at hx
    clear kn
    have kn : tm.getD 58 undef = .pointer (some ⟨lb, t, none⟩) := fin 23 _ _ rfl rfl _ rfl
    rw [kn] at hx
    clear kn
    have kn : tm.getD 59 undef = .pointer (some ⟨ob, t, none⟩) := fin 25 _ _ rfl rfl _ rfl
    rw [kn] at hx
    clear kn
    clear fin
    simp only [List.setIfInBounds_toArray, List.set_cons_succ, List.set_cons_zero] at hx
    subst hx
    unfold phased at hph
    rw [if_pos rfl] at hph
    obtain ⟨_, hph⟩ := hph
    obtain rfl := hph
    exact HK.out _ _ _ _ _ _ _ _ _ _ _ _ _ _ _ _ _ _ _ _ _ _ _ _ _ _ _ _ _ _ _ _ _ _ _ _ _ _ _ _ _ _ _ _ _ _ _ _ _ _ _ _ _ _ _ _ _ _ _ _ _ _ _ _ _ _ _ _ _ _ _ _ _ _ _ _ _ _ _ _ _ _ _ (HQ.out)
set_option maxHeartbeats 16000000 in
theorem pl3 {w0 w : World} {RA RB RC RD : Res} {lb ob eb t f : Nat} {vs : Nat → Value} {os : Nat → Bool} {ls : Nat → List Ch} {x : Ei} {u0 u1 u2 u3 u4 u8 u10 u11 u12 u13 u14 u15 u16 u17 u18 u19 u20 u21 u22 u23 u24 u25 u26 u27 u28 u29 u30 u32 u33 u34 u35 u36 u37 u38 u39 u40 u41 u42 u43 u44 u45 u46 u47 u48 u49 u50 u51 u52 u53 u54 u55 u56 u57 u58 u59 u60 u61 u62 u63 u64 u65 u66 u67 u68 u69 u70 u71 u72 u73 u74 u75 u76 u77 u78 u79 u80 u81 u82 u83 u84 u85 u86 u87 u88 u89 u90 u91 u92 u93 u94 u95 u96 u97 u98 u99 u100 u101 u102 u103 u104 u105 u106 u107 u108 u109 u110 u111 u112 u113 u114 u115 u116 u117 u118 u119 u120 u121 u122 u123 u124 u125 u126 u127 u128 u129 u130 u131 u132 u133 u134 u135 u136 u137 u138 u139 u140 u141 u142 u143 u144 u145 u146 u147 u148 u149 u150 u151 u152 u153 u154 u155 u156 u157 u158 u159 u160 u161 u162 u163 u164 u165 u166 u167 u168 u169 u170 u171 u172 u173 u174 u175 : Value} (h : Ow w0 (fun _ => False) w (LQ RA RB RC RD lb ob vs vs os ls ++ [Res.blk eb 40 #[.int .i64 (x.r.k : Int), .int .i64 (t : Int), .int .i64 (x.r.p : Int), .int .i64 (x.r.s : Int), .string x.r.b, .string x.r.a, .string x.r.i, .slice x.A x.r.ds.length x.c, .int .u64 (x.pl : Int)]])) (ht : t < 8) (hl : (ls t).length ≤ 1000) (hk : x.r.k = 3) {Q : Exit → Act → World → Prop}
    (hK : ∀ (v11 v32 v33 v34 v35 v36 v37 v38 v39 v40 v41 v42 v43 v44 v45 v46 v47 v48 v49 v50 v51 v52 v53 v54 v55 v56 v57 v58 v59 v60 v61 v62 v63 v64 v65 v66 v67 v68 v69 v70 v71 v72 v73 v74 v75 v76 v77 v78 v79 v80 v81 v82 v83 v84 v85 v86 v87 v88 v89 v90 v91 v92 v93 v94 v95 v96 v97 v98 v99 v100 v101 v102 v103 v104 v105 v106 v107 v108 v109 v110 v111 : Value) (w' : World) (vs' : Nat → Value), Ow w0 (fun _ => False) w' (LQ RA RB RC RD lb ob vs' vs' (setN os t true) (setN ls t (ls t ++ [chOf x.r])) ++ [Res.blk eb 40 #[.int .i64 (x.r.k : Int), .int .i64 (t : Int), .int .i64 (x.r.p : Int), .int .i64 (x.r.s : Int), .string x.r.b, .string x.r.a, .string x.r.i, .slice x.A x.r.ds.length x.c, .int .u64 (x.pl : Int)]]) → Q .normal ⟨#[u0, u1, u2, u3, u4, .int .u64 (f : Int), .pointer (some ⟨lb, 0, none⟩), .pointer (some ⟨ob, 0, none⟩), u8, .pointer (some ⟨eb, 0, none⟩), u10, v11, u12, u13, u14, u15, u16, u17, u18, u19, u20, u21, u22, u23, u24, u25, u26, u27, u28, u29, u30, .int .i64 (x.r.k : Int), v32, v33, v34, v35, v36, v37, v38, v39, v40, v41, v42, v43, v44, v45, v46, v47, v48, v49, v50, v51, v52, v53, v54, v55, v56, v57, v58, v59, v60, v61, v62, v63, v64, v65, v66, v67, v68, v69, v70, v71, v72, v73, v74, v75, v76, v77, v78, v79, v80, v81, v82, v83, v84, v85, v86, v87, v88, v89, v90, v91, v92, v93, v94, v95, v96, v97, v98, v99, v100, v101, v102, v103, v104, v105, v106, v107, v108, v109, v110, v111, u112, u113, u114, u115, u116, u117, u118, u119, u120, u121, u122, u123, u124, u125, u126, u127, u128, u129, u130, u131, u132, u133, u134, u135, u136, u137, u138, u139, u140, u141, u142, u143, u144, u145, u146, u147, u148, u149, u150, u151, u152, u153, u154, u155, u156, u157, u158, u159, u160, u161, u162, u163, u164, u165, u166, u167, u168, u169, u170, u171, u172, u173, u174, u175], []⟩ w') :
    Code.wp Try.prog (subC (Try.f3.body.getD .skip) [1,1,1,1,1,1,1,1,0,1,0,0,1,1,0,0,1,1]) Q ⟨#[u0, u1, u2, u3, u4, .int .u64 (f : Int), .pointer (some ⟨lb, 0, none⟩), .pointer (some ⟨ob, 0, none⟩), u8, .pointer (some ⟨eb, 0, none⟩), u10, u11, u12, u13, u14, u15, u16, u17, u18, u19, u20, u21, u22, u23, u24, u25, u26, u27, u28, u29, u30, .int .i64 (x.r.k : Int), u32, u33, u34, u35, u36, u37, u38, u39, u40, u41, u42, u43, u44, u45, u46, u47, u48, u49, u50, u51, u52, u53, u54, u55, u56, u57, u58, u59, u60, u61, u62, u63, u64, u65, u66, u67, u68, u69, u70, u71, u72, u73, u74, u75, u76, u77, u78, u79, u80, u81, u82, u83, u84, u85, u86, u87, u88, u89, u90, u91, u92, u93, u94, u95, u96, u97, u98, u99, u100, u101, u102, u103, u104, u105, u106, u107, u108, u109, u110, u111, u112, u113, u114, u115, u116, u117, u118, u119, u120, u121, u122, u123, u124, u125, u126, u127, u128, u129, u130, u131, u132, u133, u134, u135, u136, u137, u138, u139, u140, u141, u142, u143, u144, u145, u146, u147, u148, u149, u150, u151, u152, u153, u154, u155, u156, u157, u158, u159, u160, u161, u162, u163, u164, u165, u166, u167, u168, u169, u170, u171, u172, u173, u174, u175], []⟩ w := by
  conv => arg 2; whnf
  have HK := hide hK
  clear hK
  have g2 : ((x.r.k : Int) == 2) = false := by rw [beq_eq_false_iff_ne]; omega
  have g3 : ((x.r.k : Int) == 3) = true := by rw [hk]; rfl
  have h4 : (t : Int) < 8 := by omega
  have h0 : (0 : Int) ≤ (t : Int) := by omega
  obtain ⟨A, c, e⟩ := (h.rowsAt (i := 6) rfl ht).form
  obtain ⟨l, hll⟩ : ∃ l, (ls t).length = l := ⟨_, rfl⟩
  rw [hll] at e
  have SD : Ow w0 (fun _ => False) w.drew (LQ RA RB RC RD lb ob vs vs os ls ++ [Res.blk eb 40 #[.int .i64 (x.r.k : Int), .int .i64 (t : Int), .int .i64 (x.r.p : Int), .int .i64 (x.r.s : Int), .string x.r.b, .string x.r.a, .string x.r.i, .slice x.A x.r.ds.length x.c, .int .u64 (x.pl : Int)]]) := h.below (Below.refl _ _).drew
  have S1 : Ow w0 (fun _ => False) (w.drew.alloc (.cells #[.int .i64 (x.r.p : Int), .int .i64 (x.r.s : Int), .string x.r.b] 42)) (LQ RA RB RC RD lb ob vs vs os ls ++ [Res.blk eb 40 #[.int .i64 (x.r.k : Int), .int .i64 (t : Int), .int .i64 (x.r.p : Int), .int .i64 (x.r.s : Int), .string x.r.b, .string x.r.a, .string x.r.i, .slice x.A x.r.ds.length x.c, .int .u64 (x.pl : Int)]]) := (SD.box 42 #[.int .i64 (x.r.p : Int), .int .i64 (x.r.s : Int), .string x.r.b]).take 8
  obtain ⟨A9, c9, w9, hrun, S9⟩ := SD.appRows (i := 6) (x := chOf x.r) (cs := #[.int .i64 (x.r.p : Int), .int .i64 (x.r.s : Int), .string x.r.b]) rfl ht e rfl (by omega) 28
  rw [hll] at hrun S9
  have S9 : Ow w0 (fun _ => False) w9 (LQ RA RB RC RD lb ob vs (setN vs t (.slice A9 (l + 1) c9)) os (setN ls t (ls t ++ [chOf x.r])) ++ [Res.blk eb 40 #[.int .i64 (x.r.k : Int), .int .i64 (t : Int), .int .i64 (x.r.p : Int), .int .i64 (x.r.s : Int), .string x.r.b, .string x.r.a, .string x.r.i, .slice x.A x.r.ds.length x.c, .int .u64 (x.pl : Int)]]) := S9
  have HRUN : Hid ((Builtin.append_ #[28, 28] 28 #[.slice A l c, .slice (some ⟨w.heap.size, 0, none⟩) 1 1]).run Try.prog (w.drew.alloc (.cells #[.int .i64 (x.r.p : Int), .int .i64 (x.r.s : Int), .string x.r.b] 42)) = .ok (.slice A9 (l + 1) c9) w9) := hide hrun
  have S4 := LQ.storeLo (t := t) S9 (.slice A9 (l + 1) c9)
  have S5 := LQ.storeOp (t := t) S4 true
  have HALL : Hid (∀ w2, (w2 = w.drew ∨ w2 = (w.drew.alloc (.cells #[.int .i64 (x.r.p : Int), .int .i64 (x.r.s : Int), .string x.r.b] 42)) ∨ w2 = w9 ∨ w2 = (w9.setCell ⟨lb, t, none⟩ (.slice A9 (l + 1) c9)) ∨ w2 = ((w9.setCell ⟨lb, t, none⟩ (.slice A9 (l + 1) c9)).setCell ⟨ob, t, none⟩ (.bool true))) → Blk w2 eb 40 #[.int .i64 (x.r.k : Int), .int .i64 (t : Int), .int .i64 (x.r.p : Int), .int .i64 (x.r.s : Int), .string x.r.b, .string x.r.a, .string x.r.i, .slice x.A x.r.ds.length x.c, .int .u64 (x.pl : Int)]) := hide (fun w2 hw => by
    rcases hw with rfl | rfl | rfl | rfl | rfl
    · exact SD.blk (i := 7) rfl
    · exact S1.blk (i := 7) rfl
    · exact S9.blk (i := 7) rfl
    · exact S4.blk (i := 7) rfl
    · exact S5.blk (i := 7) rfl)
  have HLS : Hid (∀ w2, (w2 = w.drew ∨ w2 = (w.drew.alloc (.cells #[.int .i64 (x.r.p : Int), .int .i64 (x.r.s : Int), .string x.r.b] 42))) → w2.cell? ⟨lb, t, none⟩ = some (.slice A l c)) := hide (fun w2 hw => by
    rw [← e]
    rcases hw with rfl | rfl
    · exact (LQ.cells SD ht).1
    · exact (LQ.cells S1 ht).1)
  have HC1 : Hid (w9.cell? ⟨lb, t, none⟩ = some (vs t) ∧ w9.frozen? ⟨lb, t, none⟩ = false) := hide ⟨(LQ.cells S9 ht).1, (LQ.cells S9 ht).2.2.1⟩
  have HC2 : Hid ((w9.setCell ⟨lb, t, none⟩ (.slice A9 (l + 1) c9)).cell? ⟨ob, t, none⟩ = some (.bool (os t)) ∧ (w9.setCell ⟨lb, t, none⟩ (.slice A9 (l + 1) c9)).frozen? ⟨ob, t, none⟩ = false) := hide ⟨(LQ.cells S4 ht).2.1, (LQ.cells S4 ht).2.2.2⟩
  have HQ := hide S5
  have e1 := (h.blk (i := 7) rfl).cell 0 _ rfl
  clear SD S1 S9 S4 S5 h e hll hrun hk hl ht
  go_upto_region 16 with (fail)
  refine region_phases (valV [some (.pointer (some ⟨eb, 0, none⟩)), some (.pointer (some ⟨eb, 1, none⟩)), some (.int .i64 (t : Int)), some (.pointer (some ⟨eb, 0, none⟩)), some (.pointer (some ⟨eb, 1, none⟩)), some (.int .i64 (t : Int)), some (.pointer (some ⟨eb, 0, none⟩)), some (.pointer (some ⟨eb, 1, none⟩)), some (.int .i64 (t : Int)), some (.pointer (some ⟨lb, t, none⟩)), some (.slice A l c), some (.pointer (some ⟨eb, 0, none⟩)), some (.pointer (some ⟨eb, 2, none⟩)), some (.int .i64 (x.r.p : Int)), some (.pointer (some ⟨eb, 0, none⟩)), some (.pointer (some ⟨eb, 3, none⟩)), some (.int .i64 (x.r.s : Int)), some (.pointer (some ⟨eb, 0, none⟩)), some (.pointer (some ⟨eb, 4, none⟩)), some (.string x.r.b), some (.agg #[.int .i64 (x.r.p : Int), .int .i64 (x.r.s : Int), .string x.r.b]), some (.slice (some ⟨w.heap.size, 0, none⟩) 1 1), some (.slice A9 (l + 1) c9), some (.pointer (some ⟨lb, t, none⟩)), none, some (.pointer (some ⟨ob, t, none⟩)), none]) (phased [⟨26, 25, fun _ w2 => w2 = ((w9.setCell ⟨lb, t, none⟩ (.slice A9 (l + 1) c9)).setCell ⟨ob, t, none⟩ (.bool true))⟩, ⟨24, 23, fun _ w2 => w2 = (w9.setCell ⟨lb, t, none⟩ (.slice A9 (l + 1) c9))⟩, ⟨22, 22, fun _ w2 => w2 = w9⟩, ⟨21, 21, fun _ w2 => w2 = (w.drew.alloc (.cells #[.int .i64 (x.r.p : Int), .int .i64 (x.r.s : Int), .string x.r.b] 42))⟩] (fun w2 => w2 = w.drew)) (by kernel_rfl) (by kernel_rfl) (by kernel_rfl) (by kernel_rfl) (phased_ext (by kernel_rfl)) (rfl) ?_ ?_
  · intro i o ho L a w2 hph hsz hLi hnot hyes old dep
    match i, ho with
    | 0, ho =>
      obtain rfl := Option.some.inj ho
      rw [if_pos (wanted_none rfl)]
      have o9 := old 9 (by kernel_rfl)
      refine wp_yields (v := .pointer (some ⟨eb, 0, none⟩)) (w' := w2) ?_ (fun u hu => Option.some.inj (Option.some.inj hu)) (phased_quiet hLi (by rfl) hph)
      clear dep old ho hsz hph hnot hyes hLi
      go_simp
    | 1, ho =>
      obtain rfl := Option.some.inj ho
      rw [if_pos (wanted_none rfl)]
      have d0 : a.tmps.getD 35 undef = .pointer (some ⟨eb, 0, none⟩) := dep 0 _ _ (by kernel_rfl) rfl rfl _ rfl
      have e0 : a.tmps[35]?.getD undef = .pointer (some ⟨eb, 0, none⟩) := (Array.getD_eq_getD_getElem? ..).symm.trans d0
      refine wp_yields (v := .pointer (some ⟨eb, 1, none⟩)) (w' := w2) ?_ (fun u hu => Option.some.inj (Option.some.inj hu)) (phased_quiet hLi (by rfl) hph)
      clear dep old ho hsz hph hnot hyes hLi
      go_simp
    | 2, ho =>
      obtain rfl := Option.some.inj ho
      rw [if_pos (wanted_none rfl)]
      have d1 : a.tmps.getD 36 undef = .pointer (some ⟨eb, 1, none⟩) := dep 1 _ _ (by kernel_rfl) rfl rfl _ rfl
      have e1 : a.tmps[36]?.getD undef = .pointer (some ⟨eb, 1, none⟩) := (Array.getD_eq_getD_getElem? ..).symm.trans d1
      have hR : (fun w2 => Blk w2 eb 40 #[.int .i64 (x.r.k : Int), .int .i64 (t : Int), .int .i64 (x.r.p : Int), .int .i64 (x.r.s : Int), .string x.r.b, .string x.r.a, .string x.r.i, .slice x.A x.r.ds.length x.c, .int .u64 (x.pl : Int)]) w2 := phased_all (R := fun w2 => Blk w2 eb 40 #[.int .i64 (x.r.k : Int), .int .i64 (t : Int), .int .i64 (x.r.p : Int), .int .i64 (x.r.s : Int), .string x.r.b, .string x.r.a, .string x.r.i, .slice x.A x.r.ds.length x.c, .int .u64 (x.pl : Int)]) (fun p hp => by
        simp only [List.mem_cons, List.not_mem_nil, or_false] at hp
        rcases hp with rfl | rfl | rfl | rfl <;> exact fun v w2 h => HALL.out w2 (by first | exact .inl h | exact .inr (.inl h) | exact .inr (.inr (.inl h)) | exact .inr (.inr (.inr (.inl h))) | exact .inr (.inr (.inr (.inr (h)))))) (fun w2 h => HALL.out w2 (by first | exact .inl h | exact .inr (.inl h) | exact .inr (.inr (.inl h)) | exact .inr (.inr (.inr (.inl h))) | exact .inr (.inr (.inr (.inr (h)))))) hph
      have c0 := hR.cell 1 _ rfl
      refine wp_yields (v := .int .i64 (t : Int)) (w' := w2) ?_ (fun u hu => Option.some.inj (Option.some.inj hu)) (phased_quiet hLi (by rfl) hph)
      clear dep old ho hsz hph hnot hyes hLi
      go_simp
    | 3, ho =>
      obtain rfl := Option.some.inj ho
      rw [if_pos (wanted_none rfl)]
      have o9 := old 9 (by kernel_rfl)
      refine wp_yields (v := .pointer (some ⟨eb, 0, none⟩)) (w' := w2) ?_ (fun u hu => Option.some.inj (Option.some.inj hu)) (phased_quiet hLi (by rfl) hph)
      clear dep old ho hsz hph hnot hyes hLi
      go_simp
    | 4, ho =>
      obtain rfl := Option.some.inj ho
      rw [if_pos (wanted_none rfl)]
      have d3 : a.tmps.getD 38 undef = .pointer (some ⟨eb, 0, none⟩) := dep 3 _ _ (by kernel_rfl) rfl rfl _ rfl
      have e3 : a.tmps[38]?.getD undef = .pointer (some ⟨eb, 0, none⟩) := (Array.getD_eq_getD_getElem? ..).symm.trans d3
      refine wp_yields (v := .pointer (some ⟨eb, 1, none⟩)) (w' := w2) ?_ (fun u hu => Option.some.inj (Option.some.inj hu)) (phased_quiet hLi (by rfl) hph)
      clear dep old ho hsz hph hnot hyes hLi
      go_simp
    | 5, ho =>
      obtain rfl := Option.some.inj ho
      rw [if_pos (wanted_none rfl)]
      have d4 : a.tmps.getD 39 undef = .pointer (some ⟨eb, 1, none⟩) := dep 4 _ _ (by kernel_rfl) rfl rfl _ rfl
      have e4 : a.tmps[39]?.getD undef = .pointer (some ⟨eb, 1, none⟩) := (Array.getD_eq_getD_getElem? ..).symm.trans d4
      have hR : (fun w2 => Blk w2 eb 40 #[.int .i64 (x.r.k : Int), .int .i64 (t : Int), .int .i64 (x.r.p : Int), .int .i64 (x.r.s : Int), .string x.r.b, .string x.r.a, .string x.r.i, .slice x.A x.r.ds.length x.c, .int .u64 (x.pl : Int)]) w2 := phased_all (R := fun w2 => Blk w2 eb 40 #[.int .i64 (x.r.k : Int), .int .i64 (t : Int), .int .i64 (x.r.p : Int), .int .i64 (x.r.s : Int), .string x.r.b, .string x.r.a, .string x.r.i, .slice x.A x.r.ds.length x.c, .int .u64 (x.pl : Int)]) (fun p hp => by
        simp only [List.mem_cons, List.not_mem_nil, or_false] at hp
        rcases hp with rfl | rfl | rfl | rfl <;> exact fun v w2 h => HALL.out w2 (by first | exact .inl h | exact .inr (.inl h) | exact .inr (.inr (.inl h)) | exact .inr (.inr (.inr (.inl h))) | exact .inr (.inr (.inr (.inr (h)))))) (fun w2 h => HALL.out w2 (by first | exact .inl h | exact .inr (.inl h) | exact .inr (.inr (.inl h)) | exact .inr (.inr (.inr (.inl h))) | exact .inr (.inr (.inr (.inr (h)))))) hph
      have c0 := hR.cell 1 _ rfl
      refine wp_yields (v := .int .i64 (t : Int)) (w' := w2) ?_ (fun u hu => Option.some.inj (Option.some.inj hu)) (phased_quiet hLi (by rfl) hph)
      clear dep old ho hsz hph hnot hyes hLi
      go_simp
    | 6, ho =>
      obtain rfl := Option.some.inj ho
      rw [if_pos (wanted_none rfl)]
      have o9 := old 9 (by kernel_rfl)
      refine wp_yields (v := .pointer (some ⟨eb, 0, none⟩)) (w' := w2) ?_ (fun u hu => Option.some.inj (Option.some.inj hu)) (phased_quiet hLi (by rfl) hph)
      clear dep old ho hsz hph hnot hyes hLi
      go_simp
    | 7, ho =>
      obtain rfl := Option.some.inj ho
      rw [if_pos (wanted_none rfl)]
      have d6 : a.tmps.getD 41 undef = .pointer (some ⟨eb, 0, none⟩) := dep 6 _ _ (by kernel_rfl) rfl rfl _ rfl
      have e6 : a.tmps[41]?.getD undef = .pointer (some ⟨eb, 0, none⟩) := (Array.getD_eq_getD_getElem? ..).symm.trans d6
      refine wp_yields (v := .pointer (some ⟨eb, 1, none⟩)) (w' := w2) ?_ (fun u hu => Option.some.inj (Option.some.inj hu)) (phased_quiet hLi (by rfl) hph)
      clear dep old ho hsz hph hnot hyes hLi
      go_simp
    | 8, ho =>
      obtain rfl := Option.some.inj ho
      rw [if_pos (wanted_none rfl)]
      have d7 : a.tmps.getD 42 undef = .pointer (some ⟨eb, 1, none⟩) := dep 7 _ _ (by kernel_rfl) rfl rfl _ rfl
      have e7 : a.tmps[42]?.getD undef = .pointer (some ⟨eb, 1, none⟩) := (Array.getD_eq_getD_getElem? ..).symm.trans d7
      have hR : (fun w2 => Blk w2 eb 40 #[.int .i64 (x.r.k : Int), .int .i64 (t : Int), .int .i64 (x.r.p : Int), .int .i64 (x.r.s : Int), .string x.r.b, .string x.r.a, .string x.r.i, .slice x.A x.r.ds.length x.c, .int .u64 (x.pl : Int)]) w2 := phased_all (R := fun w2 => Blk w2 eb 40 #[.int .i64 (x.r.k : Int), .int .i64 (t : Int), .int .i64 (x.r.p : Int), .int .i64 (x.r.s : Int), .string x.r.b, .string x.r.a, .string x.r.i, .slice x.A x.r.ds.length x.c, .int .u64 (x.pl : Int)]) (fun p hp => by
        simp only [List.mem_cons, List.not_mem_nil, or_false] at hp
        rcases hp with rfl | rfl | rfl | rfl <;> exact fun v w2 h => HALL.out w2 (by first | exact .inl h | exact .inr (.inl h) | exact .inr (.inr (.inl h)) | exact .inr (.inr (.inr (.inl h))) | exact .inr (.inr (.inr (.inr (h)))))) (fun w2 h => HALL.out w2 (by first | exact .inl h | exact .inr (.inl h) | exact .inr (.inr (.inl h)) | exact .inr (.inr (.inr (.inl h))) | exact .inr (.inr (.inr (.inr (h)))))) hph
      have c0 := hR.cell 1 _ rfl
      refine wp_yields (v := .int .i64 (t : Int)) (w' := w2) ?_ (fun u hu => Option.some.inj (Option.some.inj hu)) (phased_quiet hLi (by rfl) hph)
      clear dep old ho hsz hph hnot hyes hLi
      go_simp
    | 9, ho =>
      obtain rfl := Option.some.inj ho
      rw [if_pos (wanted_none rfl)]
      have o6 := old 6 (by kernel_rfl)
      have d8 : a.tmps.getD 43 undef = .int .i64 (t : Int) := dep 8 _ _ (by kernel_rfl) rfl rfl _ rfl
      have e8 : a.tmps[43]?.getD undef = .int .i64 (t : Int) := (Array.getD_eq_getD_getElem? ..).symm.trans d8
      refine wp_yields (v := .pointer (some ⟨lb, t, none⟩)) (w' := w2) ?_ (fun u hu => Option.some.inj (Option.some.inj hu)) (phased_quiet hLi (by rfl) hph)
      clear dep old ho hsz hph hnot hyes hLi
      go_simp
    | 10, ho =>
      obtain rfl := Option.some.inj ho
      rw [if_pos (wanted_none rfl)]
      have d9 : a.tmps.getD 44 undef = .pointer (some ⟨lb, t, none⟩) := dep 9 _ _ (by kernel_rfl) rfl rfl _ rfl
      have e9 : a.tmps[44]?.getD undef = .pointer (some ⟨lb, t, none⟩) := (Array.getD_eq_getD_getElem? ..).symm.trans d9
      unfold phased at hph
      rw [if_neg (by rw [hnot 26 (by kernel_rfl)]; decide)] at hph
      unfold phased at hph
      rw [if_neg (by rw [hnot 24 (by kernel_rfl)]; decide)] at hph
      unfold phased at hph
      rw [if_neg (by rw [hnot 22 (by kernel_rfl)]; decide)] at hph
      have hw : w2 = w.drew ∨ w2 = (w.drew.alloc (.cells #[.int .i64 (x.r.p : Int), .int .i64 (x.r.s : Int), .string x.r.b] 42)) := by
        unfold phased at hph
        split at hph
        · exact .inr hph.2
        · exact .inl hph
      have c0 := HLS.out w2 hw
      refine wp_yields (v := .slice A l c) (w' := w2) ?_ (fun u hu => Option.some.inj (Option.some.inj hu)) (phased_quiet hLi (by rfl) (by unfold phased; rw [if_neg (by rw [hnot 26 (by kernel_rfl)]; decide)]; unfold phased; rw [if_neg (by rw [hnot 24 (by kernel_rfl)]; decide)]; unfold phased; rw [if_neg (by rw [hnot 22 (by kernel_rfl)]; decide)]; exact hph))
      clear hw
      clear dep old ho hsz hnot hyes hLi
      clear hph
      go_simp
    | 11, ho =>
      obtain rfl := Option.some.inj ho
      rw [if_pos (wanted_none rfl)]
      have o9 := old 9 (by kernel_rfl)
      refine wp_yields (v := .pointer (some ⟨eb, 0, none⟩)) (w' := w2) ?_ (fun u hu => Option.some.inj (Option.some.inj hu)) (phased_quiet hLi (by rfl) hph)
      clear dep old ho hsz hph hnot hyes hLi
      go_simp
    | 12, ho =>
      obtain rfl := Option.some.inj ho
      rw [if_pos (wanted_none rfl)]
      have d11 : a.tmps.getD 46 undef = .pointer (some ⟨eb, 0, none⟩) := dep 11 _ _ (by kernel_rfl) rfl rfl _ rfl
      have e11 : a.tmps[46]?.getD undef = .pointer (some ⟨eb, 0, none⟩) := (Array.getD_eq_getD_getElem? ..).symm.trans d11
      refine wp_yields (v := .pointer (some ⟨eb, 2, none⟩)) (w' := w2) ?_ (fun u hu => Option.some.inj (Option.some.inj hu)) (phased_quiet hLi (by rfl) hph)
      clear dep old ho hsz hph hnot hyes hLi
      go_simp
    | 13, ho =>
      obtain rfl := Option.some.inj ho
      rw [if_pos (wanted_none rfl)]
      have d12 : a.tmps.getD 47 undef = .pointer (some ⟨eb, 2, none⟩) := dep 12 _ _ (by kernel_rfl) rfl rfl _ rfl
      have e12 : a.tmps[47]?.getD undef = .pointer (some ⟨eb, 2, none⟩) := (Array.getD_eq_getD_getElem? ..).symm.trans d12
      have hR : (fun w2 => Blk w2 eb 40 #[.int .i64 (x.r.k : Int), .int .i64 (t : Int), .int .i64 (x.r.p : Int), .int .i64 (x.r.s : Int), .string x.r.b, .string x.r.a, .string x.r.i, .slice x.A x.r.ds.length x.c, .int .u64 (x.pl : Int)]) w2 := phased_all (R := fun w2 => Blk w2 eb 40 #[.int .i64 (x.r.k : Int), .int .i64 (t : Int), .int .i64 (x.r.p : Int), .int .i64 (x.r.s : Int), .string x.r.b, .string x.r.a, .string x.r.i, .slice x.A x.r.ds.length x.c, .int .u64 (x.pl : Int)]) (fun p hp => by
        simp only [List.mem_cons, List.not_mem_nil, or_false] at hp
        rcases hp with rfl | rfl | rfl | rfl <;> exact fun v w2 h => HALL.out w2 (by first | exact .inl h | exact .inr (.inl h) | exact .inr (.inr (.inl h)) | exact .inr (.inr (.inr (.inl h))) | exact .inr (.inr (.inr (.inr (h)))))) (fun w2 h => HALL.out w2 (by first | exact .inl h | exact .inr (.inl h) | exact .inr (.inr (.inl h)) | exact .inr (.inr (.inr (.inl h))) | exact .inr (.inr (.inr (.inr (h)))))) hph
      have c0 := hR.cell 2 _ rfl
      refine wp_yields (v := .int .i64 (x.r.p : Int)) (w' := w2) ?_ (fun u hu => Option.some.inj (Option.some.inj hu)) (phased_quiet hLi (by rfl) hph)
      clear dep old ho hsz hph hnot hyes hLi
      go_simp
    | 14, ho =>
      obtain rfl := Option.some.inj ho
      rw [if_pos (wanted_none rfl)]
      have o9 := old 9 (by kernel_rfl)
      refine wp_yields (v := .pointer (some ⟨eb, 0, none⟩)) (w' := w2) ?_ (fun u hu => Option.some.inj (Option.some.inj hu)) (phased_quiet hLi (by rfl) hph)
      clear dep old ho hsz hph hnot hyes hLi
      go_simp
    | 15, ho =>
      obtain rfl := Option.some.inj ho
      rw [if_pos (wanted_none rfl)]
      have d14 : a.tmps.getD 49 undef = .pointer (some ⟨eb, 0, none⟩) := dep 14 _ _ (by kernel_rfl) rfl rfl _ rfl
      have e14 : a.tmps[49]?.getD undef = .pointer (some ⟨eb, 0, none⟩) := (Array.getD_eq_getD_getElem? ..).symm.trans d14
      refine wp_yields (v := .pointer (some ⟨eb, 3, none⟩)) (w' := w2) ?_ (fun u hu => Option.some.inj (Option.some.inj hu)) (phased_quiet hLi (by rfl) hph)
      clear dep old ho hsz hph hnot hyes hLi
      go_simp
    | 16, ho =>
      obtain rfl := Option.some.inj ho
      rw [if_pos (wanted_none rfl)]
      have d15 : a.tmps.getD 50 undef = .pointer (some ⟨eb, 3, none⟩) := dep 15 _ _ (by kernel_rfl) rfl rfl _ rfl
      have e15 : a.tmps[50]?.getD undef = .pointer (some ⟨eb, 3, none⟩) := (Array.getD_eq_getD_getElem? ..).symm.trans d15
      have hR : (fun w2 => Blk w2 eb 40 #[.int .i64 (x.r.k : Int), .int .i64 (t : Int), .int .i64 (x.r.p : Int), .int .i64 (x.r.s : Int), .string x.r.b, .string x.r.a, .string x.r.i, .slice x.A x.r.ds.length x.c, .int .u64 (x.pl : Int)]) w2 := phased_all (R := fun w2 => Blk w2 eb 40 #[.int .i64 (x.r.k : Int), .int .i64 (t : Int), .int .i64 (x.r.p : Int), .int .i64 (x.r.s : Int), .string x.r.b, .string x.r.a, .string x.r.i, .slice x.A x.r.ds.length x.c, .int .u64 (x.pl : Int)]) (fun p hp => by
        simp only [List.mem_cons, List.not_mem_nil, or_false] at hp
        rcases hp with rfl | rfl | rfl | rfl <;> exact fun v w2 h => HALL.out w2 (by first | exact .inl h | exact .inr (.inl h) | exact .inr (.inr (.inl h)) | exact .inr (.inr (.inr (.inl h))) | exact .inr (.inr (.inr (.inr (h)))))) (fun w2 h => HALL.out w2 (by first | exact .inl h | exact .inr (.inl h) | exact .inr (.inr (.inl h)) | exact .inr (.inr (.inr (.inl h))) | exact .inr (.inr (.inr (.inr (h)))))) hph
      have c0 := hR.cell 3 _ rfl
      refine wp_yields (v := .int .i64 (x.r.s : Int)) (w' := w2) ?_ (fun u hu => Option.some.inj (Option.some.inj hu)) (phased_quiet hLi (by rfl) hph)
      clear dep old ho hsz hph hnot hyes hLi
      go_simp
    | 17, ho =>
      obtain rfl := Option.some.inj ho
      rw [if_pos (wanted_none rfl)]
      have o9 := old 9 (by kernel_rfl)
      refine wp_yields (v := .pointer (some ⟨eb, 0, none⟩)) (w' := w2) ?_ (fun u hu => Option.some.inj (Option.some.inj hu)) (phased_quiet hLi (by rfl) hph)
      clear dep old ho hsz hph hnot hyes hLi
      go_simp
    | 18, ho =>
      obtain rfl := Option.some.inj ho
      rw [if_pos (wanted_none rfl)]
      have d17 : a.tmps.getD 52 undef = .pointer (some ⟨eb, 0, none⟩) := dep 17 _ _ (by kernel_rfl) rfl rfl _ rfl
      have e17 : a.tmps[52]?.getD undef = .pointer (some ⟨eb, 0, none⟩) := (Array.getD_eq_getD_getElem? ..).symm.trans d17
      refine wp_yields (v := .pointer (some ⟨eb, 4, none⟩)) (w' := w2) ?_ (fun u hu => Option.some.inj (Option.some.inj hu)) (phased_quiet hLi (by rfl) hph)
      clear dep old ho hsz hph hnot hyes hLi
      go_simp
    | 19, ho =>
      obtain rfl := Option.some.inj ho
      rw [if_pos (wanted_none rfl)]
      have d18 : a.tmps.getD 53 undef = .pointer (some ⟨eb, 4, none⟩) := dep 18 _ _ (by kernel_rfl) rfl rfl _ rfl
      have e18 : a.tmps[53]?.getD undef = .pointer (some ⟨eb, 4, none⟩) := (Array.getD_eq_getD_getElem? ..).symm.trans d18
      have hR : (fun w2 => Blk w2 eb 40 #[.int .i64 (x.r.k : Int), .int .i64 (t : Int), .int .i64 (x.r.p : Int), .int .i64 (x.r.s : Int), .string x.r.b, .string x.r.a, .string x.r.i, .slice x.A x.r.ds.length x.c, .int .u64 (x.pl : Int)]) w2 := phased_all (R := fun w2 => Blk w2 eb 40 #[.int .i64 (x.r.k : Int), .int .i64 (t : Int), .int .i64 (x.r.p : Int), .int .i64 (x.r.s : Int), .string x.r.b, .string x.r.a, .string x.r.i, .slice x.A x.r.ds.length x.c, .int .u64 (x.pl : Int)]) (fun p hp => by
        simp only [List.mem_cons, List.not_mem_nil, or_false] at hp
        rcases hp with rfl | rfl | rfl | rfl <;> exact fun v w2 h => HALL.out w2 (by first | exact .inl h | exact .inr (.inl h) | exact .inr (.inr (.inl h)) | exact .inr (.inr (.inr (.inl h))) | exact .inr (.inr (.inr (.inr (h)))))) (fun w2 h => HALL.out w2 (by first | exact .inl h | exact .inr (.inl h) | exact .inr (.inr (.inl h)) | exact .inr (.inr (.inr (.inl h))) | exact .inr (.inr (.inr (.inr (h)))))) hph
      have c0 := hR.cell 4 _ rfl
      refine wp_yields (v := .string x.r.b) (w' := w2) ?_ (fun u hu => Option.some.inj (Option.some.inj hu)) (phased_quiet hLi (by rfl) hph)
      clear dep old ho hsz hph hnot hyes hLi
      go_simp
    | 20, ho =>
      obtain rfl := Option.some.inj ho
      rw [if_pos (wanted_none rfl)]
      have d13 : a.tmps.getD 48 undef = .int .i64 (x.r.p : Int) := dep 13 _ _ (by kernel_rfl) rfl rfl _ rfl
      have e13 : a.tmps[48]?.getD undef = .int .i64 (x.r.p : Int) := (Array.getD_eq_getD_getElem? ..).symm.trans d13
      have d16 : a.tmps.getD 51 undef = .int .i64 (x.r.s : Int) := dep 16 _ _ (by kernel_rfl) rfl rfl _ rfl
      have e16 : a.tmps[51]?.getD undef = .int .i64 (x.r.s : Int) := (Array.getD_eq_getD_getElem? ..).symm.trans d16
      have d19 : a.tmps.getD 54 undef = .string x.r.b := dep 19 _ _ (by kernel_rfl) rfl rfl _ rfl
      have e19 : a.tmps[54]?.getD undef = .string x.r.b := (Array.getD_eq_getD_getElem? ..).symm.trans d19
      refine wp_yields (v := .agg #[.int .i64 (x.r.p : Int), .int .i64 (x.r.s : Int), .string x.r.b]) (w' := w2) ?_ (fun u hu => Option.some.inj (Option.some.inj hu)) (phased_quiet hLi (by rfl) hph)
      clear dep old ho hsz hph hnot hyes hLi
      go_simp
    | 21, ho =>
      obtain rfl := Option.some.inj ho
      rw [if_pos (wanted_none rfl)]
      have d20 : a.tmps.getD 55 undef = .agg #[.int .i64 (x.r.p : Int), .int .i64 (x.r.s : Int), .string x.r.b] := dep 20 _ _ (by kernel_rfl) rfl rfl _ rfl
      have e20 : a.tmps[55]?.getD undef = .agg #[.int .i64 (x.r.p : Int), .int .i64 (x.r.s : Int), .string x.r.b] := (Array.getD_eq_getD_getElem? ..).symm.trans d20
      have hnt26 := hnot 26 (by kernel_rfl)
      have hnt24 := hnot 24 (by kernel_rfl)
      have hnt22 := hnot 22 (by kernel_rfl)
      unfold phased at hph
      rw [if_neg (by rw [hnot 26 (by kernel_rfl)]; decide)] at hph
      unfold phased at hph
      rw [if_neg (by rw [hnot 24 (by kernel_rfl)]; decide)] at hph
      unfold phased at hph
      rw [if_neg (by rw [hnot 22 (by kernel_rfl)]; decide)] at hph
      unfold phased at hph
      rw [if_neg (by rw [hLi]; decide)] at hph
      unfold phased at hph
      obtain rfl : w2 = w.drew := hph
      refine wp_yields (v := .slice (some ⟨w.heap.size, 0, none⟩) 1 1) (w' := (w.drew.alloc (.cells #[.int .i64 (x.r.p : Int), .int .i64 (x.r.s : Int), .string x.r.b] 42))) ?_ (fun u hu => Option.some.inj (Option.some.inj hu)) ?_
      · clear hnt26 hnt24 hnt22
        clear dep old ho hsz hnot hyes hLi
        go_simp
      · unfold phased
        rw [if_neg (by simp [also, hnt26])]
        unfold phased
        rw [if_neg (by simp [also, hnt24])]
        unfold phased
        rw [if_neg (by simp [also, hnt22])]
        unfold phased
        rw [if_pos (by simp [also])]
        exact ⟨by simp [also], rfl⟩
    | 22, ho =>
      obtain rfl := Option.some.inj ho
      rw [if_pos (wanted_none rfl)]
      have d10 : a.tmps.getD 45 undef = .slice A l c := dep 10 _ _ (by kernel_rfl) rfl rfl _ rfl
      have e10 : a.tmps[45]?.getD undef = .slice A l c := (Array.getD_eq_getD_getElem? ..).symm.trans d10
      have d21 : a.tmps.getD 56 undef = .slice (some ⟨w.heap.size, 0, none⟩) 1 1 := dep 21 _ _ (by kernel_rfl) rfl rfl _ rfl
      have e21 : a.tmps[56]?.getD undef = .slice (some ⟨w.heap.size, 0, none⟩) 1 1 := (Array.getD_eq_getD_getElem? ..).symm.trans d21
      have hnt26 := hnot 26 (by kernel_rfl)
      have hnt24 := hnot 24 (by kernel_rfl)
      unfold phased at hph
      rw [if_neg (by rw [hnot 26 (by kernel_rfl)]; decide)] at hph
      unfold phased at hph
      rw [if_neg (by rw [hnot 24 (by kernel_rfl)]; decide)] at hph
      unfold phased at hph
      rw [if_neg (by rw [hLi]; decide)] at hph
      unfold phased at hph
      rw [if_pos (hyes 21 (by kernel_rfl))] at hph
      obtain rfl : w2 = (w.drew.alloc (.cells #[.int .i64 (x.r.p : Int), .int .i64 (x.r.s : Int), .string x.r.b] 42)) := hph.2
      have hr := HRUN.out
      refine wp_yields (v := .slice A9 (l + 1) c9) (w' := w9) (exec_append_run (.tmp 45) (.tmp 56) _ rfl d10 d21 hr) (fun u hu => Option.some.inj (Option.some.inj hu)) ?_
      unfold phased
      rw [if_neg (by simp [also, hnt26])]
      unfold phased
      rw [if_neg (by simp [also, hnt24])]
      unfold phased
      rw [if_pos (by simp [also])]
      exact ⟨by simp [also], rfl⟩
    | 23, ho =>
      obtain rfl := Option.some.inj ho
      rw [if_pos (wanted_none rfl)]
      have o6 := old 6 (by kernel_rfl)
      have d2 : a.tmps.getD 37 undef = .int .i64 (t : Int) := dep 2 _ _ (by kernel_rfl) rfl rfl _ rfl
      have e2 : a.tmps[37]?.getD undef = .int .i64 (t : Int) := (Array.getD_eq_getD_getElem? ..).symm.trans d2
      refine wp_yields (v := .pointer (some ⟨lb, t, none⟩)) (w' := w2) ?_ (fun u hu => Option.some.inj (Option.some.inj hu)) (phased_quiet hLi (by rfl) hph)
      clear dep old ho hsz hph hnot hyes hLi
      go_simp
    | 24, ho =>
      obtain rfl := Option.some.inj ho
      rw [if_pos (wanted_none rfl)]
      have d22 : a.tmps.getD 57 undef = .slice A9 (l + 1) c9 := dep 22 _ _ (by kernel_rfl) rfl rfl _ rfl
      have e22 : a.tmps[57]?.getD undef = .slice A9 (l + 1) c9 := (Array.getD_eq_getD_getElem? ..).symm.trans d22
      have d23 : a.tmps.getD 58 undef = .pointer (some ⟨lb, t, none⟩) := dep 23 _ _ (by kernel_rfl) rfl rfl _ rfl
      have e23 : a.tmps[58]?.getD undef = .pointer (some ⟨lb, t, none⟩) := (Array.getD_eq_getD_getElem? ..).symm.trans d23
      have hnt26 := hnot 26 (by kernel_rfl)
      unfold phased at hph
      rw [if_neg (by rw [hnot 26 (by kernel_rfl)]; decide)] at hph
      unfold phased at hph
      rw [if_neg (by rw [hLi]; decide)] at hph
      unfold phased at hph
      rw [if_pos (hyes 22 (by kernel_rfl))] at hph
      obtain rfl : w9 = w2 := hph.2.symm
      obtain ⟨c0, f0⟩ := HC1.out
      refine wp_skips (w' := (w9.setCell ⟨lb, t, none⟩ (.slice A9 (l + 1) c9))) ?_ (fun u hu => by cases Option.some.inj hu) ?_
      · clear hnt26 hph
        clear dep old ho hsz hnot hyes hLi
        go_simp
      · unfold phased
        rw [if_neg (by simp [also, hnt26])]
        unfold phased
        rw [if_pos (by simp [also])]
        exact ⟨by simp [also, hyes 23 (by kernel_rfl)], rfl⟩
    | 25, ho =>
      obtain rfl := Option.some.inj ho
      rw [if_pos (wanted_none rfl)]
      have o7 := old 7 (by kernel_rfl)
      have d5 : a.tmps.getD 40 undef = .int .i64 (t : Int) := dep 5 _ _ (by kernel_rfl) rfl rfl _ rfl
      have e5 : a.tmps[40]?.getD undef = .int .i64 (t : Int) := (Array.getD_eq_getD_getElem? ..).symm.trans d5
      refine wp_yields (v := .pointer (some ⟨ob, t, none⟩)) (w' := w2) ?_ (fun u hu => Option.some.inj (Option.some.inj hu)) (phased_quiet hLi (by rfl) hph)
      clear dep old ho hsz hph hnot hyes hLi
      go_simp
    | 26, ho =>
      obtain rfl := Option.some.inj ho
      rw [if_pos (wanted_none rfl)]
      have d25 : a.tmps.getD 59 undef = .pointer (some ⟨ob, t, none⟩) := dep 25 _ _ (by kernel_rfl) rfl rfl _ rfl
      have e25 : a.tmps[59]?.getD undef = .pointer (some ⟨ob, t, none⟩) := (Array.getD_eq_getD_getElem? ..).symm.trans d25
      unfold phased at hph
      rw [if_neg (by rw [hLi]; decide)] at hph
      unfold phased at hph
      rw [if_pos (hyes 24 (by kernel_rfl))] at hph
      obtain rfl : w2 = (w9.setCell ⟨lb, t, none⟩ (.slice A9 (l + 1) c9)) := hph.2
      obtain ⟨c0, f0⟩ := HC2.out
      refine wp_skips (w' := ((w9.setCell ⟨lb, t, none⟩ (.slice A9 (l + 1) c9)).setCell ⟨ob, t, none⟩ (.bool true))) ?_ (fun u hu => by cases Option.some.inj hu) ?_
      · clear hph
        clear dep old ho hsz hnot hyes hLi
        go_simp
      · unfold phased
        rw [if_pos (by simp [also])]
        exact ⟨by simp [also, hyes 25 (by kernel_rfl)], rfl⟩
    | i + 27, ho => exact absurd ho (by simp)
  · intro a w4 hph hsz hdf fin keep
    obtain ⟨tm, df⟩ := a
    have hx := frame_of [35, 36, 37, 38, 39, 40, 41, 42, 43, 44, 45, 46, 47, 48, 49, 50, 51, 52, 53, 54, 55, 56, 57, 58, 59] (by kernel_rfl) hsz keep
    dsimp only at hdf hx
    simp only [List.foldl_cons, List.foldl_nil] at hx
    subst hdf
    clear hsz keep
    have kn : tm.getD 35 undef = .pointer (some ⟨eb, 0, none⟩) := fin 0 _ _ rfl rfl _ rfl
    rw [kn] at hx
    clear kn
    have kn : tm.getD 36 undef = .pointer (some ⟨eb, 1, none⟩) := fin 1 _ _ rfl rfl _ rfl
    rw [kn] at hx
    clear kn
    have kn : tm.getD 37 undef = .int .i64 (t : Int) := fin 2 _ _ rfl rfl _ rfl
    rw [kn] at hx
    clear kn
    have kn : tm.getD 38 undef = .pointer (some ⟨eb, 0, none⟩) := fin 3 _ _ rfl rfl _ rfl
    rw [kn] at hx
    clear kn
    have kn : tm.getD 39 undef = .pointer (some ⟨eb, 1, none⟩) := fin 4 _ _ rfl rfl _ rfl
    rw [kn] at hx
    clear kn
    have kn : tm.getD 40 undef = .int .i64 (t : Int) := fin 5 _ _ rfl rfl _ rfl
    rw [kn] at hx
    clear kn
    have kn : tm.getD 41 undef = .pointer (some ⟨eb, 0, none⟩) := fin 6 _ _ rfl rfl _ rfl
    rw [kn] at hx
    clear kn
    have kn : tm.getD 42 undef = .pointer (some ⟨eb, 1, none⟩) := fin 7 _ _ rfl rfl _ rfl
    rw [kn] at hx
    clear kn
    have kn : tm.getD 43 undef = .int .i64 (t : Int) := fin 8 _ _ rfl rfl _ rfl
    rw [kn] at hx
    clear kn
    have kn : tm.getD 44 undef = .pointer (some ⟨lb, t, none⟩) := fin 9 _ _ rfl rfl _ rfl
    rw [kn] at hx
    clear kn
    have kn : tm.getD 45 undef = .slice A l c := fin 10 _ _ rfl rfl _ rfl
    rw [kn] at hx
    clear kn
    have kn : tm.getD 46 undef = .pointer (some ⟨eb, 0, none⟩) := fin 11 _ _ rfl rfl _ rfl
    rw [kn] at hx
    clear kn
    have kn : tm.getD 47 undef = .pointer (some ⟨eb, 2, none⟩) := fin 12 _ _ rfl rfl _ rfl
    rw [kn] at hx
    clear kn
    have kn : tm.getD 48 undef = .int .i64 (x.r.p : Int) := fin 13 _ _ rfl rfl _ rfl
    rw [kn] at hx
    clear kn
    have kn : tm.getD 49 undef = .pointer (some ⟨eb, 0, none⟩) := fin 14 _ _ rfl rfl _ rfl
    rw [kn] at hx
    clear kn
    have kn : tm.getD 50 undef = .pointer (some ⟨eb, 3, none⟩) := fin 15 _ _ rfl rfl _ rfl
    rw [kn] at hx
    clear kn
    have kn : tm.getD 51 undef = .int .i64 (x.r.s : Int) := fin 16 _ _ rfl rfl _ rfl
    rw [kn] at hx
    clear kn
    have kn : tm.getD 52 undef = .pointer (some ⟨eb, 0, none⟩) := fin 17 _ _ rfl rfl _ rfl
    rw [kn] at hx
    clear kn
    have kn : tm.getD 53 undef = .pointer (some ⟨eb, 4, none⟩) := fin 18 _ _ rfl rfl _ rfl
    rw [kn] at hx
    clear kn
    have kn : tm.getD 54 undef = .string x.r.b := fin 19 _ _ rfl rfl _ rfl
    rw [kn] at hx
    clear kn
    have kn : tm.getD 55 undef = .agg #[.int .i64 (x.r.p : Int), .int .i64 (x.r.s : Int), .string x.r.b] := fin 20 _ _ rfl rfl _ rfl
    rw [kn] at hx
    clear kn
    have kn : tm.getD 56 undef = .slice (some ⟨w.heap.size, 0, none⟩) 1 1 := fin 21 _ _ rfl rfl _ rfl
    rw [kn] at hx
    clear kn
    have kn : tm.getD 57 undef = .slice A9 (l + 1) c9 := fin 22 _ _ rfl rfl _ rfl
    rw [kn] at hx
    clear kn
    have kn : tm.getD 58 undef = .pointer (some ⟨lb, t, none⟩) := fin 23 _ _ rfl rfl _ rfl
    rw [kn] at hx
    clear kn
    have kn : tm.getD 59 undef = .pointer (some ⟨ob, t, none⟩) := fin 25 _ _ rfl rfl _ rfl
    rw [kn] at hx
    clear kn
    clear fin
    simp only [List.setIfInBounds_toArray, List.set_cons_succ, List.set_cons_zero] at hx
    subst hx
    unfold phased at hph
    rw [if_pos rfl] at hph
    obtain ⟨_, hph⟩ := hph
    obtain rfl := hph
    exact HK.out _ _ _ _ _ _ _ _ _ _ _ _ _ _ _ _ _ _ _ _ _ _ _ _ _ _ _ _ _ _ _ _ _ _ _ _ _ _ _ _ _ _ _ _ _ _ _ _ _ _ _ _ _ _ _ _ _ _ _ _ _ _ _ _ _ _ _ _ _ _ _ _ _ _ _ _ _ _ _ _ _ _ _ (HQ.out)
set_option maxHeartbeats 16000000 in
theorem pl5 {w0 w : World} {RA RB RC RD : Res} {lb ob eb t f : Nat} {vs : Nat → Value} {os : Nat → Bool} {ls : Nat → List Ch} {x : Ei} {u0 u1 u2 u3 u4 u8 u10 u11 u12 u13 u14 u15 u16 u17 u18 u19 u20 u21 u22 u23 u24 u25 u26 u27 u28 u29 u30 u32 u33 u34 u35 u36 u37 u38 u39 u40 u41 u42 u43 u44 u45 u46 u47 u48 u49 u50 u51 u52 u53 u54 u55 u56 u57 u58 u59 u60 u61 u62 u63 u64 u65 u66 u67 u68 u69 u70 u71 u72 u73 u74 u75 u76 u77 u78 u79 u80 u81 u82 u83 u84 u85 u86 u87 u88 u89 u90 u91 u92 u93 u94 u95 u96 u97 u98 u99 u100 u101 u102 u103 u104 u105 u106 u107 u108 u109 u110 u111 u112 u113 u114 u115 u116 u117 u118 u119 u120 u121 u122 u123 u124 u125 u126 u127 u128 u129 u130 u131 u132 u133 u134 u135 u136 u137 u138 u139 u140 u141 u142 u143 u144 u145 u146 u147 u148 u149 u150 u151 u152 u153 u154 u155 u156 u157 u158 u159 u160 u161 u162 u163 u164 u165 u166 u167 u168 u169 u170 u171 u172 u173 u174 u175 : Value} (h : Ow w0 (fun _ => False) w (LQ RA RB RC RD lb ob vs vs os ls ++ [Res.blk eb 40 #[.int .i64 (x.r.k : Int), .int .i64 (t : Int), .int .i64 (x.r.p : Int), .int .i64 (x.r.s : Int), .string x.r.b, .string x.r.a, .string x.r.i, .slice x.A x.r.ds.length x.c, .int .u64 (x.pl : Int)]])) (ht : t < 8) (hl : (ls t).length ≤ 1000) (hk : x.r.k = 5) {Q : Exit → Act → World → Prop}
    (hK : ∀ (v11 v32 v33 v34 v35 v36 v37 v38 v39 v40 v41 v42 v43 v44 v45 v46 v47 v48 v49 v50 v51 v52 v53 v54 v55 v56 v57 v58 v59 v60 v61 v62 v63 v64 v65 v66 v67 v68 v69 v70 v71 v72 v73 v74 v75 v76 v77 v78 v79 v80 v81 v82 v83 v84 v85 v86 v87 v88 v89 v90 v91 v92 v93 v94 v95 v96 v97 v98 v99 v100 v101 v102 v103 v104 v105 v106 v107 v108 v109 v110 v111 : Value) (w' : World) (vs' : Nat → Value), Ow w0 (fun _ => False) w' (LQ RA RB RC RD lb ob vs' vs' (setN os t false) (setN ls t []) ++ [Res.blk eb 40 #[.int .i64 (x.r.k : Int), .int .i64 (t : Int), .int .i64 (x.r.p : Int), .int .i64 (x.r.s : Int), .string x.r.b, .string x.r.a, .string x.r.i, .slice x.A x.r.ds.length x.c, .int .u64 (x.pl : Int)]]) → Q .normal ⟨#[u0, u1, u2, u3, u4, .int .u64 (f : Int), .pointer (some ⟨lb, 0, none⟩), .pointer (some ⟨ob, 0, none⟩), u8, .pointer (some ⟨eb, 0, none⟩), u10, v11, u12, u13, u14, u15, u16, u17, u18, u19, u20, u21, u22, u23, u24, u25, u26, u27, u28, u29, u30, .int .i64 (x.r.k : Int), v32, v33, v34, v35, v36, v37, v38, v39, v40, v41, v42, v43, v44, v45, v46, v47, v48, v49, v50, v51, v52, v53, v54, v55, v56, v57, v58, v59, v60, v61, v62, v63, v64, v65, v66, v67, v68, v69, v70, v71, v72, v73, v74, v75, v76, v77, v78, v79, v80, v81, v82, v83, v84, v85, v86, v87, v88, v89, v90, v91, v92, v93, v94, v95, v96, v97, v98, v99, v100, v101, v102, v103, v104, v105, v106, v107, v108, v109, v110, v111, u112, u113, u114, u115, u116, u117, u118, u119, u120, u121, u122, u123, u124, u125, u126, u127, u128, u129, u130, u131, u132, u133, u134, u135, u136, u137, u138, u139, u140, u141, u142, u143, u144, u145, u146, u147, u148, u149, u150, u151, u152, u153, u154, u155, u156, u157, u158, u159, u160, u161, u162, u163, u164, u165, u166, u167, u168, u169, u170, u171, u172, u173, u174, u175], []⟩ w') :
    Code.wp Try.prog (subC (Try.f3.body.getD .skip) [1,1,1,1,1,1,1,1,0,1,0,0,1,1,0,0,1,1]) Q ⟨#[u0, u1, u2, u3, u4, .int .u64 (f : Int), .pointer (some ⟨lb, 0, none⟩), .pointer (some ⟨ob, 0, none⟩), u8, .pointer (some ⟨eb, 0, none⟩), u10, u11, u12, u13, u14, u15, u16, u17, u18, u19, u20, u21, u22, u23, u24, u25, u26, u27, u28, u29, u30, .int .i64 (x.r.k : Int), u32, u33, u34, u35, u36, u37, u38, u39, u40, u41, u42, u43, u44, u45, u46, u47, u48, u49, u50, u51, u52, u53, u54, u55, u56, u57, u58, u59, u60, u61, u62, u63, u64, u65, u66, u67, u68, u69, u70, u71, u72, u73, u74, u75, u76, u77, u78, u79, u80, u81, u82, u83, u84, u85, u86, u87, u88, u89, u90, u91, u92, u93, u94, u95, u96, u97, u98, u99, u100, u101, u102, u103, u104, u105, u106, u107, u108, u109, u110, u111, u112, u113, u114, u115, u116, u117, u118, u119, u120, u121, u122, u123, u124, u125, u126, u127, u128, u129, u130, u131, u132, u133, u134, u135, u136, u137, u138, u139, u140, u141, u142, u143, u144, u145, u146, u147, u148, u149, u150, u151, u152, u153, u154, u155, u156, u157, u158, u159, u160, u161, u162, u163, u164, u165, u166, u167, u168, u169, u170, u171, u172, u173, u174, u175], []⟩ w := by
  conv => arg 2; whnf
  have HK := hide hK
  clear hK
  have g2 : ((x.r.k : Int) == 2) = false := by rw [beq_eq_false_iff_ne]; omega
  have g3 : ((x.r.k : Int) == 3) = false := by rw [beq_eq_false_iff_ne]; omega
  have g4 : ((x.r.k : Int) == 4) = false := by rw [beq_eq_false_iff_ne]; omega
  have g5 : ((x.r.k : Int) == 5) = true := by rw [hk]; rfl
  have h4 : (t : Int) < 8 := by omega
  have h0 : (0 : Int) ≤ (t : Int) := by omega
  have SC := h.rowsCut (i := 6) (v' := .slice none 0 0) (es' := []) rfl ht (Kd.Row.nil _ _) (fun k e => by cases e)
  have SD : Ow w0 (fun _ => False) w.drew (LQ RA RB RC RD lb ob vs (setN vs t (.slice none 0 0)) os (setN ls t []) ++ [Res.blk eb 40 #[.int .i64 (x.r.k : Int), .int .i64 (t : Int), .int .i64 (x.r.p : Int), .int .i64 (x.r.s : Int), .string x.r.b, .string x.r.a, .string x.r.i, .slice x.A x.r.ds.length x.c, .int .u64 (x.pl : Int)]]) := SC.below (Below.refl _ _).drew
  have S4 := LQ.storeLo (t := t) SD (.slice none 0 0)
  have S5 := LQ.storeOp (t := t) S4 false
  have HALL : Hid (∀ w2, (w2 = w.drew ∨ w2 = (w.drew.setCell ⟨lb, t, none⟩ (.slice none 0 0)) ∨ w2 = ((w.drew.setCell ⟨lb, t, none⟩ (.slice none 0 0)).setCell ⟨ob, t, none⟩ (.bool false))) → Blk w2 eb 40 #[.int .i64 (x.r.k : Int), .int .i64 (t : Int), .int .i64 (x.r.p : Int), .int .i64 (x.r.s : Int), .string x.r.b, .string x.r.a, .string x.r.i, .slice x.A x.r.ds.length x.c, .int .u64 (x.pl : Int)]) := hide (fun w2 hw => by
    rcases hw with rfl | rfl | rfl
    · exact SD.blk (i := 7) rfl
    · exact S4.blk (i := 7) rfl
    · exact S5.blk (i := 7) rfl)
  obtain ⟨A, c, e⟩ := (h.rowsAt (i := 6) rfl ht).form
  have HC1 : Hid (w.drew.cell? ⟨lb, t, none⟩ = some (.slice A (ls t).length c) ∧ w.drew.frozen? ⟨lb, t, none⟩ = false) := hide ⟨by rw [← e]; exact (LQ.cells SD ht).1, (LQ.cells SD ht).2.2.1⟩
  have HC2 : Hid ((w.setCell ⟨lb, t, none⟩ (.slice none 0 0)).cell? ⟨ob, t, none⟩ = some (.bool (os t)) ∧ w.frozen? ⟨ob, t, none⟩ = false) := hide ⟨(LQ.cells S4 ht).2.1, (LQ.cells h ht).2.2.2⟩
  have HQ := hide S5
  clear SC SD S4 S5 h e hk hl ht
  go_upto_region 21 with (fail)
  refine region_phases (valV [some (.pointer (some ⟨eb, 0, none⟩)), some (.pointer (some ⟨eb, 1, none⟩)), some (.int .i64 (t : Int)), some (.pointer (some ⟨eb, 0, none⟩)), some (.pointer (some ⟨eb, 1, none⟩)), some (.int .i64 (t : Int)), some (.pointer (some ⟨lb, t, none⟩)), none, some (.pointer (some ⟨ob, t, none⟩)), none]) (phased [⟨9, 8, fun _ w2 => w2 = ((w.drew.setCell ⟨lb, t, none⟩ (.slice none 0 0)).setCell ⟨ob, t, none⟩ (.bool false))⟩, ⟨7, 6, fun _ w2 => w2 = (w.drew.setCell ⟨lb, t, none⟩ (.slice none 0 0))⟩] (fun w2 => w2 = w.drew)) (by kernel_rfl) (by kernel_rfl) (by kernel_rfl) (by kernel_rfl) (phased_ext (by kernel_rfl)) (rfl) ?_ ?_
  · intro i o ho L a w2 hph hsz hLi hnot hyes old dep
    match i, ho with
    | 0, ho =>
      obtain rfl := Option.some.inj ho
      rw [if_pos (wanted_none rfl)]
      have o9 := old 9 (by kernel_rfl)
      refine wp_yields (v := .pointer (some ⟨eb, 0, none⟩)) (w' := w2) ?_ (fun u hu => Option.some.inj (Option.some.inj hu)) (phased_quiet hLi (by rfl) hph)
      clear dep old ho hsz hph hnot hyes hLi
      go_simp
    | 1, ho =>
      obtain rfl := Option.some.inj ho
      rw [if_pos (wanted_none rfl)]
      have d0 : a.tmps.getD 83 undef = .pointer (some ⟨eb, 0, none⟩) := dep 0 _ _ (by kernel_rfl) rfl rfl _ rfl
      have e0 : a.tmps[83]?.getD undef = .pointer (some ⟨eb, 0, none⟩) := (Array.getD_eq_getD_getElem? ..).symm.trans d0
      refine wp_yields (v := .pointer (some ⟨eb, 1, none⟩)) (w' := w2) ?_ (fun u hu => Option.some.inj (Option.some.inj hu)) (phased_quiet hLi (by rfl) hph)
      clear dep old ho hsz hph hnot hyes hLi
      go_simp
    | 2, ho =>
      obtain rfl := Option.some.inj ho
      rw [if_pos (wanted_none rfl)]
      have d1 : a.tmps.getD 84 undef = .pointer (some ⟨eb, 1, none⟩) := dep 1 _ _ (by kernel_rfl) rfl rfl _ rfl
      have e1 : a.tmps[84]?.getD undef = .pointer (some ⟨eb, 1, none⟩) := (Array.getD_eq_getD_getElem? ..).symm.trans d1
      have hR : (fun w2 => Blk w2 eb 40 #[.int .i64 (x.r.k : Int), .int .i64 (t : Int), .int .i64 (x.r.p : Int), .int .i64 (x.r.s : Int), .string x.r.b, .string x.r.a, .string x.r.i, .slice x.A x.r.ds.length x.c, .int .u64 (x.pl : Int)]) w2 := phased_all (R := fun w2 => Blk w2 eb 40 #[.int .i64 (x.r.k : Int), .int .i64 (t : Int), .int .i64 (x.r.p : Int), .int .i64 (x.r.s : Int), .string x.r.b, .string x.r.a, .string x.r.i, .slice x.A x.r.ds.length x.c, .int .u64 (x.pl : Int)]) (fun p hp => by
        simp only [List.mem_cons, List.not_mem_nil, or_false] at hp
        rcases hp with rfl | rfl <;> exact fun v w2 h => HALL.out w2 (by first | exact .inl h | exact .inr (.inl h) | exact .inr (.inr (h)))) (fun w2 h => HALL.out w2 (by first | exact .inl h | exact .inr (.inl h) | exact .inr (.inr (h)))) hph
      have c0 := hR.cell 1 _ rfl
      refine wp_yields (v := .int .i64 (t : Int)) (w' := w2) ?_ (fun u hu => Option.some.inj (Option.some.inj hu)) (phased_quiet hLi (by rfl) hph)
      clear dep old ho hsz hph hnot hyes hLi
      go_simp
    | 3, ho =>
      obtain rfl := Option.some.inj ho
      rw [if_pos (wanted_none rfl)]
      have o9 := old 9 (by kernel_rfl)
      refine wp_yields (v := .pointer (some ⟨eb, 0, none⟩)) (w' := w2) ?_ (fun u hu => Option.some.inj (Option.some.inj hu)) (phased_quiet hLi (by rfl) hph)
      clear dep old ho hsz hph hnot hyes hLi
      go_simp
    | 4, ho =>
      obtain rfl := Option.some.inj ho
      rw [if_pos (wanted_none rfl)]
      have d3 : a.tmps.getD 86 undef = .pointer (some ⟨eb, 0, none⟩) := dep 3 _ _ (by kernel_rfl) rfl rfl _ rfl
      have e3 : a.tmps[86]?.getD undef = .pointer (some ⟨eb, 0, none⟩) := (Array.getD_eq_getD_getElem? ..).symm.trans d3
      refine wp_yields (v := .pointer (some ⟨eb, 1, none⟩)) (w' := w2) ?_ (fun u hu => Option.some.inj (Option.some.inj hu)) (phased_quiet hLi (by rfl) hph)
      clear dep old ho hsz hph hnot hyes hLi
      go_simp
    | 5, ho =>
      obtain rfl := Option.some.inj ho
      rw [if_pos (wanted_none rfl)]
      have d4 : a.tmps.getD 87 undef = .pointer (some ⟨eb, 1, none⟩) := dep 4 _ _ (by kernel_rfl) rfl rfl _ rfl
      have e4 : a.tmps[87]?.getD undef = .pointer (some ⟨eb, 1, none⟩) := (Array.getD_eq_getD_getElem? ..).symm.trans d4
      have hR : (fun w2 => Blk w2 eb 40 #[.int .i64 (x.r.k : Int), .int .i64 (t : Int), .int .i64 (x.r.p : Int), .int .i64 (x.r.s : Int), .string x.r.b, .string x.r.a, .string x.r.i, .slice x.A x.r.ds.length x.c, .int .u64 (x.pl : Int)]) w2 := phased_all (R := fun w2 => Blk w2 eb 40 #[.int .i64 (x.r.k : Int), .int .i64 (t : Int), .int .i64 (x.r.p : Int), .int .i64 (x.r.s : Int), .string x.r.b, .string x.r.a, .string x.r.i, .slice x.A x.r.ds.length x.c, .int .u64 (x.pl : Int)]) (fun p hp => by
        simp only [List.mem_cons, List.not_mem_nil, or_false] at hp
        rcases hp with rfl | rfl <;> exact fun v w2 h => HALL.out w2 (by first | exact .inl h | exact .inr (.inl h) | exact .inr (.inr (h)))) (fun w2 h => HALL.out w2 (by first | exact .inl h | exact .inr (.inl h) | exact .inr (.inr (h)))) hph
      have c0 := hR.cell 1 _ rfl
      refine wp_yields (v := .int .i64 (t : Int)) (w' := w2) ?_ (fun u hu => Option.some.inj (Option.some.inj hu)) (phased_quiet hLi (by rfl) hph)
      clear dep old ho hsz hph hnot hyes hLi
      go_simp
    | 6, ho =>
      obtain rfl := Option.some.inj ho
      rw [if_pos (wanted_none rfl)]
      have o6 := old 6 (by kernel_rfl)
      have d2 : a.tmps.getD 85 undef = .int .i64 (t : Int) := dep 2 _ _ (by kernel_rfl) rfl rfl _ rfl
      have e2 : a.tmps[85]?.getD undef = .int .i64 (t : Int) := (Array.getD_eq_getD_getElem? ..).symm.trans d2
      refine wp_yields (v := .pointer (some ⟨lb, t, none⟩)) (w' := w2) ?_ (fun u hu => Option.some.inj (Option.some.inj hu)) (phased_quiet hLi (by rfl) hph)
      clear dep old ho hsz hph hnot hyes hLi
      go_simp
    | 7, ho =>
      obtain rfl := Option.some.inj ho
      rw [if_pos (wanted_none rfl)]
      have d6 : a.tmps.getD 89 undef = .pointer (some ⟨lb, t, none⟩) := dep 6 _ _ (by kernel_rfl) rfl rfl _ rfl
      have e6 : a.tmps[89]?.getD undef = .pointer (some ⟨lb, t, none⟩) := (Array.getD_eq_getD_getElem? ..).symm.trans d6
      have hnt9 := hnot 9 (by kernel_rfl)
      unfold phased at hph
      rw [if_neg (by rw [hnot 9 (by kernel_rfl)]; decide)] at hph
      unfold phased at hph
      rw [if_neg (by rw [hLi]; decide)] at hph
      unfold phased at hph
      obtain rfl : w2 = w.drew := hph
      obtain ⟨c0, f0⟩ := HC1.out
      refine wp_skips (w' := (w.drew.setCell ⟨lb, t, none⟩ (.slice none 0 0))) ?_ (fun u hu => by cases Option.some.inj hu) ?_
      · clear hnt9
        clear dep old ho hsz hnot hyes hLi
        go_simp
      · unfold phased
        rw [if_neg (by simp [also, hnt9])]
        unfold phased
        rw [if_pos (by simp [also])]
        exact ⟨by simp [also, hyes 6 (by kernel_rfl)], rfl⟩
    | 8, ho =>
      obtain rfl := Option.some.inj ho
      rw [if_pos (wanted_none rfl)]
      have o7 := old 7 (by kernel_rfl)
      have d5 : a.tmps.getD 88 undef = .int .i64 (t : Int) := dep 5 _ _ (by kernel_rfl) rfl rfl _ rfl
      have e5 : a.tmps[88]?.getD undef = .int .i64 (t : Int) := (Array.getD_eq_getD_getElem? ..).symm.trans d5
      refine wp_yields (v := .pointer (some ⟨ob, t, none⟩)) (w' := w2) ?_ (fun u hu => Option.some.inj (Option.some.inj hu)) (phased_quiet hLi (by rfl) hph)
      clear dep old ho hsz hph hnot hyes hLi
      go_simp
    | 9, ho =>
      obtain rfl := Option.some.inj ho
      rw [if_pos (wanted_none rfl)]
      have d8 : a.tmps.getD 90 undef = .pointer (some ⟨ob, t, none⟩) := dep 8 _ _ (by kernel_rfl) rfl rfl _ rfl
      have e8 : a.tmps[90]?.getD undef = .pointer (some ⟨ob, t, none⟩) := (Array.getD_eq_getD_getElem? ..).symm.trans d8
      unfold phased at hph
      rw [if_neg (by rw [hLi]; decide)] at hph
      unfold phased at hph
      rw [if_pos (hyes 7 (by kernel_rfl))] at hph
      obtain rfl : w2 = (w.drew.setCell ⟨lb, t, none⟩ (.slice none 0 0)) := hph.2
      obtain ⟨c0, f0⟩ := HC2.out
      refine wp_skips (w' := ((w.drew.setCell ⟨lb, t, none⟩ (.slice none 0 0)).setCell ⟨ob, t, none⟩ (.bool false))) ?_ (fun u hu => by cases Option.some.inj hu) ?_
      · clear hph
        clear dep old ho hsz hnot hyes hLi
        go_simp
      · unfold phased
        rw [if_pos (by simp [also])]
        exact ⟨by simp [also, hyes 8 (by kernel_rfl)], rfl⟩
    | i + 10, ho => exact absurd ho (by simp)
  · intro a w4 hph hsz hdf fin keep
    obtain ⟨tm, df⟩ := a
    have hx := frame_of [83, 84, 85, 86, 87, 88, 89, 90] (by kernel_rfl) hsz keep
    dsimp only at hdf hx
    simp only [List.foldl_cons, List.foldl_nil] at hx
    subst hdf
    clear hsz keep
    have kn : tm.getD 83 undef = .pointer (some ⟨eb, 0, none⟩) := fin 0 _ _ rfl rfl _ rfl
    rw [kn] at hx
    clear kn
    have kn : tm.getD 84 undef = .pointer (some ⟨eb, 1, none⟩) := fin 1 _ _ rfl rfl _ rfl
    rw [kn] at hx
    clear kn
    have kn : tm.getD 85 undef = .int .i64 (t : Int) := fin 2 _ _ rfl rfl _ rfl
    rw [kn] at hx
    clear kn
    have kn : tm.getD 86 undef = .pointer (some ⟨eb, 0, none⟩) := fin 3 _ _ rfl rfl _ rfl
    rw [kn] at hx
    clear kn
    have kn : tm.getD 87 undef = .pointer (some ⟨eb, 1, none⟩) := fin 4 _ _ rfl rfl _ rfl
    rw [kn] at hx
    clear kn
    have kn : tm.getD 88 undef = .int .i64 (t : Int) := fin 5 _ _ rfl rfl _ rfl
    rw [kn] at hx
    clear kn
    have kn : tm.getD 89 undef = .pointer (some ⟨lb, t, none⟩) := fin 6 _ _ rfl rfl _ rfl
    rw [kn] at hx
    clear kn
    have kn : tm.getD 90 undef = .pointer (some ⟨ob, t, none⟩) := fin 8 _ _ rfl rfl _ rfl
    rw [kn] at hx
    clear kn
    clear fin
    simp only [List.setIfInBounds_toArray, List.set_cons_succ, List.set_cons_zero] at hx
    subst hx
    unfold phased at hph
    rw [if_pos rfl] at hph
    obtain ⟨_, hph⟩ := hph
    obtain rfl := hph
    exact HK.out _ _ _ _ _ _ _ _ _ _ _ _ _ _ _ _ _ _ _ _ _ _ _ _ _ _ _ _ _ _ _ _ _ _ _ _ _ _ _ _ _ _ _ _ _ _ _ _ _ _ _ _ _ _ _ _ _ _ _ _ _ _ _ _ _ _ _ _ _ _ _ _ _ _ _ _ _ _ _ _ _ _ _ (HQ.out)
set_option maxHeartbeats 16000000 in
theorem pl6 {w0 w : World} {RA RB RC RD : Res} {lb ob eb t f : Nat} {vs : Nat → Value} {os : Nat → Bool} {ls : Nat → List Ch} {x : Ei} {u0 u1 u2 u3 u4 u8 u10 u11 u12 u13 u14 u15 u16 u17 u18 u19 u20 u21 u22 u23 u24 u25 u26 u27 u28 u29 u30 u32 u33 u34 u35 u36 u37 u38 u39 u40 u41 u42 u43 u44 u45 u46 u47 u48 u49 u50 u51 u52 u53 u54 u55 u56 u57 u58 u59 u60 u61 u62 u63 u64 u65 u66 u67 u68 u69 u70 u71 u72 u73 u74 u75 u76 u77 u78 u79 u80 u81 u82 u83 u84 u85 u86 u87 u88 u89 u90 u91 u92 u93 u94 u95 u96 u97 u98 u99 u100 u101 u102 u103 u104 u105 u106 u107 u108 u109 u110 u111 u112 u113 u114 u115 u116 u117 u118 u119 u120 u121 u122 u123 u124 u125 u126 u127 u128 u129 u130 u131 u132 u133 u134 u135 u136 u137 u138 u139 u140 u141 u142 u143 u144 u145 u146 u147 u148 u149 u150 u151 u152 u153 u154 u155 u156 u157 u158 u159 u160 u161 u162 u163 u164 u165 u166 u167 u168 u169 u170 u171 u172 u173 u174 u175 : Value} (h : Ow w0 (fun _ => False) w (LQ RA RB RC RD lb ob vs vs os ls ++ [Res.blk eb 40 #[.int .i64 (x.r.k : Int), .int .i64 (t : Int), .int .i64 (x.r.p : Int), .int .i64 (x.r.s : Int), .string x.r.b, .string x.r.a, .string x.r.i, .slice x.A x.r.ds.length x.c, .int .u64 (x.pl : Int)]])) (ht : t < 8) (hl : (ls t).length ≤ 1000) (hk : x.r.k = 6) {Q : Exit → Act → World → Prop}
    (hK : ∀ (v11 v32 v33 v34 v35 v36 v37 v38 v39 v40 v41 v42 v43 v44 v45 v46 v47 v48 v49 v50 v51 v52 v53 v54 v55 v56 v57 v58 v59 v60 v61 v62 v63 v64 v65 v66 v67 v68 v69 v70 v71 v72 v73 v74 v75 v76 v77 v78 v79 v80 v81 v82 v83 v84 v85 v86 v87 v88 v89 v90 v91 v92 v93 v94 v95 v96 v97 v98 v99 v100 v101 v102 v103 v104 v105 v106 v107 v108 v109 v110 v111 : Value) (w' : World) (vs' : Nat → Value), Ow w0 (fun _ => False) w' (LQ RA RB RC RD lb ob vs' vs' (setN os t false) (setN ls t []) ++ [Res.blk eb 40 #[.int .i64 (x.r.k : Int), .int .i64 (t : Int), .int .i64 (x.r.p : Int), .int .i64 (x.r.s : Int), .string x.r.b, .string x.r.a, .string x.r.i, .slice x.A x.r.ds.length x.c, .int .u64 (x.pl : Int)]]) → Q .normal ⟨#[u0, u1, u2, u3, u4, .int .u64 (f : Int), .pointer (some ⟨lb, 0, none⟩), .pointer (some ⟨ob, 0, none⟩), u8, .pointer (some ⟨eb, 0, none⟩), u10, v11, u12, u13, u14, u15, u16, u17, u18, u19, u20, u21, u22, u23, u24, u25, u26, u27, u28, u29, u30, .int .i64 (x.r.k : Int), v32, v33, v34, v35, v36, v37, v38, v39, v40, v41, v42, v43, v44, v45, v46, v47, v48, v49, v50, v51, v52, v53, v54, v55, v56, v57, v58, v59, v60, v61, v62, v63, v64, v65, v66, v67, v68, v69, v70, v71, v72, v73, v74, v75, v76, v77, v78, v79, v80, v81, v82, v83, v84, v85, v86, v87, v88, v89, v90, v91, v92, v93, v94, v95, v96, v97, v98, v99, v100, v101, v102, v103, v104, v105, v106, v107, v108, v109, v110, v111, u112, u113, u114, u115, u116, u117, u118, u119, u120, u121, u122, u123, u124, u125, u126, u127, u128, u129, u130, u131, u132, u133, u134, u135, u136, u137, u138, u139, u140, u141, u142, u143, u144, u145, u146, u147, u148, u149, u150, u151, u152, u153, u154, u155, u156, u157, u158, u159, u160, u161, u162, u163, u164, u165, u166, u167, u168, u169, u170, u171, u172, u173, u174, u175], []⟩ w') :
    Code.wp Try.prog (subC (Try.f3.body.getD .skip) [1,1,1,1,1,1,1,1,0,1,0,0,1,1,0,0,1,1]) Q ⟨#[u0, u1, u2, u3, u4, .int .u64 (f : Int), .pointer (some ⟨lb, 0, none⟩), .pointer (some ⟨ob, 0, none⟩), u8, .pointer (some ⟨eb, 0, none⟩), u10, u11, u12, u13, u14, u15, u16, u17, u18, u19, u20, u21, u22, u23, u24, u25, u26, u27, u28, u29, u30, .int .i64 (x.r.k : Int), u32, u33, u34, u35, u36, u37, u38, u39, u40, u41, u42, u43, u44, u45, u46, u47, u48, u49, u50, u51, u52, u53, u54, u55, u56, u57, u58, u59, u60, u61, u62, u63, u64, u65, u66, u67, u68, u69, u70, u71, u72, u73, u74, u75, u76, u77, u78, u79, u80, u81, u82, u83, u84, u85, u86, u87, u88, u89, u90, u91, u92, u93, u94, u95, u96, u97, u98, u99, u100, u101, u102, u103, u104, u105, u106, u107, u108, u109, u110, u111, u112, u113, u114, u115, u116, u117, u118, u119, u120, u121, u122, u123, u124, u125, u126, u127, u128, u129, u130, u131, u132, u133, u134, u135, u136, u137, u138, u139, u140, u141, u142, u143, u144, u145, u146, u147, u148, u149, u150, u151, u152, u153, u154, u155, u156, u157, u158, u159, u160, u161, u162, u163, u164, u165, u166, u167, u168, u169, u170, u171, u172, u173, u174, u175], []⟩ w := by
  conv => arg 2; whnf
  have HK := hide hK
  clear hK
  have g2 : ((x.r.k : Int) == 2) = false := by rw [beq_eq_false_iff_ne]; omega
  have g3 : ((x.r.k : Int) == 3) = false := by rw [beq_eq_false_iff_ne]; omega
  have g4 : ((x.r.k : Int) == 4) = false := by rw [beq_eq_false_iff_ne]; omega
  have g5 : ((x.r.k : Int) == 5) = false := by rw [beq_eq_false_iff_ne]; omega
  have g6 : ((x.r.k : Int) == 6) = true := by rw [hk]; rfl
  have h4 : (t : Int) < 8 := by omega
  have h0 : (0 : Int) ≤ (t : Int) := by omega
  have SC := h.rowsCut (i := 6) (v' := .slice none 0 0) (es' := []) rfl ht (Kd.Row.nil _ _) (fun k e => by cases e)
  have SD : Ow w0 (fun _ => False) w.drew (LQ RA RB RC RD lb ob vs (setN vs t (.slice none 0 0)) os (setN ls t []) ++ [Res.blk eb 40 #[.int .i64 (x.r.k : Int), .int .i64 (t : Int), .int .i64 (x.r.p : Int), .int .i64 (x.r.s : Int), .string x.r.b, .string x.r.a, .string x.r.i, .slice x.A x.r.ds.length x.c, .int .u64 (x.pl : Int)]]) := SC.below (Below.refl _ _).drew
  have S4 := LQ.storeLo (t := t) SD (.slice none 0 0)
  have S5 := LQ.storeOp (t := t) S4 false
  have HALL : Hid (∀ w2, (w2 = w.drew ∨ w2 = (w.drew.setCell ⟨lb, t, none⟩ (.slice none 0 0)) ∨ w2 = ((w.drew.setCell ⟨lb, t, none⟩ (.slice none 0 0)).setCell ⟨ob, t, none⟩ (.bool false))) → Blk w2 eb 40 #[.int .i64 (x.r.k : Int), .int .i64 (t : Int), .int .i64 (x.r.p : Int), .int .i64 (x.r.s : Int), .string x.r.b, .string x.r.a, .string x.r.i, .slice x.A x.r.ds.length x.c, .int .u64 (x.pl : Int)]) := hide (fun w2 hw => by
    rcases hw with rfl | rfl | rfl
    · exact SD.blk (i := 7) rfl
    · exact S4.blk (i := 7) rfl
    · exact S5.blk (i := 7) rfl)
  obtain ⟨A, c, e⟩ := (h.rowsAt (i := 6) rfl ht).form
  have HC1 : Hid (w.drew.cell? ⟨lb, t, none⟩ = some (.slice A (ls t).length c) ∧ w.drew.frozen? ⟨lb, t, none⟩ = false) := hide ⟨by rw [← e]; exact (LQ.cells SD ht).1, (LQ.cells SD ht).2.2.1⟩
  have HC2 : Hid ((w.setCell ⟨lb, t, none⟩ (.slice none 0 0)).cell? ⟨ob, t, none⟩ = some (.bool (os t)) ∧ w.frozen? ⟨ob, t, none⟩ = false) := hide ⟨(LQ.cells S4 ht).2.1, (LQ.cells h ht).2.2.2⟩
  have HQ := hide S5
  clear SC SD S4 S5 h e hk hl ht
  go_upto_region 21 with (fail)
  refine region_phases (valV [some (.pointer (some ⟨eb, 0, none⟩)), some (.pointer (some ⟨eb, 1, none⟩)), some (.int .i64 (t : Int)), some (.pointer (some ⟨eb, 0, none⟩)), some (.pointer (some ⟨eb, 1, none⟩)), some (.int .i64 (t : Int)), some (.pointer (some ⟨lb, t, none⟩)), none, some (.pointer (some ⟨ob, t, none⟩)), none]) (phased [⟨9, 8, fun _ w2 => w2 = ((w.drew.setCell ⟨lb, t, none⟩ (.slice none 0 0)).setCell ⟨ob, t, none⟩ (.bool false))⟩, ⟨7, 6, fun _ w2 => w2 = (w.drew.setCell ⟨lb, t, none⟩ (.slice none 0 0))⟩] (fun w2 => w2 = w.drew)) (by kernel_rfl) (by kernel_rfl) (by kernel_rfl) (by kernel_rfl) (phased_ext (by kernel_rfl)) (rfl) ?_ ?_
  · intro i o ho L a w2 hph hsz hLi hnot hyes old dep
    match i, ho with
    | 0, ho =>
      obtain rfl := Option.some.inj ho
      rw [if_pos (wanted_none rfl)]
      have o9 := old 9 (by kernel_rfl)
      refine wp_yields (v := .pointer (some ⟨eb, 0, none⟩)) (w' := w2) ?_ (fun u hu => Option.some.inj (Option.some.inj hu)) (phased_quiet hLi (by rfl) hph)
      clear dep old ho hsz hph hnot hyes hLi
      go_simp
    | 1, ho =>
      obtain rfl := Option.some.inj ho
      rw [if_pos (wanted_none rfl)]
      have d0 : a.tmps.getD 83 undef = .pointer (some ⟨eb, 0, none⟩) := dep 0 _ _ (by kernel_rfl) rfl rfl _ rfl
      have e0 : a.tmps[83]?.getD undef = .pointer (some ⟨eb, 0, none⟩) := (Array.getD_eq_getD_getElem? ..).symm.trans d0
      refine wp_yields (v := .pointer (some ⟨eb, 1, none⟩)) (w' := w2) ?_ (fun u hu => Option.some.inj (Option.some.inj hu)) (phased_quiet hLi (by rfl) hph)
      clear dep old ho hsz hph hnot hyes hLi
      go_simp
    | 2, ho =>
      obtain rfl := Option.some.inj ho
      rw [if_pos (wanted_none rfl)]
      have d1 : a.tmps.getD 84 undef = .pointer (some ⟨eb, 1, none⟩) := dep 1 _ _ (by kernel_rfl) rfl rfl _ rfl
      have e1 : a.tmps[84]?.getD undef = .pointer (some ⟨eb, 1, none⟩) := (Array.getD_eq_getD_getElem? ..).symm.trans d1
      have hR : (fun w2 => Blk w2 eb 40 #[.int .i64 (x.r.k : Int), .int .i64 (t : Int), .int .i64 (x.r.p : Int), .int .i64 (x.r.s : Int), .string x.r.b, .string x.r.a, .string x.r.i, .slice x.A x.r.ds.length x.c, .int .u64 (x.pl : Int)]) w2 := phased_all (R := fun w2 => Blk w2 eb 40 #[.int .i64 (x.r.k : Int), .int .i64 (t : Int), .int .i64 (x.r.p : Int), .int .i64 (x.r.s : Int), .string x.r.b, .string x.r.a, .string x.r.i, .slice x.A x.r.ds.length x.c, .int .u64 (x.pl : Int)]) (fun p hp => by
        simp only [List.mem_cons, List.not_mem_nil, or_false] at hp
        rcases hp with rfl | rfl <;> exact fun v w2 h => HALL.out w2 (by first | exact .inl h | exact .inr (.inl h) | exact .inr (.inr (h)))) (fun w2 h => HALL.out w2 (by first | exact .inl h | exact .inr (.inl h) | exact .inr (.inr (h)))) hph
      have c0 := hR.cell 1 _ rfl
      refine wp_yields (v := .int .i64 (t : Int)) (w' := w2) ?_ (fun u hu => Option.some.inj (Option.some.inj hu)) (phased_quiet hLi (by rfl) hph)
      clear dep old ho hsz hph hnot hyes hLi
      go_simp
    | 3, ho =>
      obtain rfl := Option.some.inj ho
      rw [if_pos (wanted_none rfl)]
      have o9 := old 9 (by kernel_rfl)
      refine wp_yields (v := .pointer (some ⟨eb, 0, none⟩)) (w' := w2) ?_ (fun u hu => Option.some.inj (Option.some.inj hu)) (phased_quiet hLi (by rfl) hph)
      clear dep old ho hsz hph hnot hyes hLi
      go_simp
    | 4, ho =>
      obtain rfl := Option.some.inj ho
      rw [if_pos (wanted_none rfl)]
      have d3 : a.tmps.getD 86 undef = .pointer (some ⟨eb, 0, none⟩) := dep 3 _ _ (by kernel_rfl) rfl rfl _ rfl
      have e3 : a.tmps[86]?.getD undef = .pointer (some ⟨eb, 0, none⟩) := (Array.getD_eq_getD_getElem? ..).symm.trans d3
      refine wp_yields (v := .pointer (some ⟨eb, 1, none⟩)) (w' := w2) ?_ (fun u hu => Option.some.inj (Option.some.inj hu)) (phased_quiet hLi (by rfl) hph)
      clear dep old ho hsz hph hnot hyes hLi
      go_simp
    | 5, ho =>
      obtain rfl := Option.some.inj ho
      rw [if_pos (wanted_none rfl)]
      have d4 : a.tmps.getD 87 undef = .pointer (some ⟨eb, 1, none⟩) := dep 4 _ _ (by kernel_rfl) rfl rfl _ rfl
      have e4 : a.tmps[87]?.getD undef = .pointer (some ⟨eb, 1, none⟩) := (Array.getD_eq_getD_getElem? ..).symm.trans d4
      have hR : (fun w2 => Blk w2 eb 40 #[.int .i64 (x.r.k : Int), .int .i64 (t : Int), .int .i64 (x.r.p : Int), .int .i64 (x.r.s : Int), .string x.r.b, .string x.r.a, .string x.r.i, .slice x.A x.r.ds.length x.c, .int .u64 (x.pl : Int)]) w2 := phased_all (R := fun w2 => Blk w2 eb 40 #[.int .i64 (x.r.k : Int), .int .i64 (t : Int), .int .i64 (x.r.p : Int), .int .i64 (x.r.s : Int), .string x.r.b, .string x.r.a, .string x.r.i, .slice x.A x.r.ds.length x.c, .int .u64 (x.pl : Int)]) (fun p hp => by
        simp only [List.mem_cons, List.not_mem_nil, or_false] at hp
        rcases hp with rfl | rfl <;> exact fun v w2 h => HALL.out w2 (by first | exact .inl h | exact .inr (.inl h) | exact .inr (.inr (h)))) (fun w2 h => HALL.out w2 (by first | exact .inl h | exact .inr (.inl h) | exact .inr (.inr (h)))) hph
      have c0 := hR.cell 1 _ rfl
      refine wp_yields (v := .int .i64 (t : Int)) (w' := w2) ?_ (fun u hu => Option.some.inj (Option.some.inj hu)) (phased_quiet hLi (by rfl) hph)
      clear dep old ho hsz hph hnot hyes hLi
      go_simp
    | 6, ho =>
      obtain rfl := Option.some.inj ho
      rw [if_pos (wanted_none rfl)]
      have o6 := old 6 (by kernel_rfl)
      have d2 : a.tmps.getD 85 undef = .int .i64 (t : Int) := dep 2 _ _ (by kernel_rfl) rfl rfl _ rfl
      have e2 : a.tmps[85]?.getD undef = .int .i64 (t : Int) := (Array.getD_eq_getD_getElem? ..).symm.trans d2
      refine wp_yields (v := .pointer (some ⟨lb, t, none⟩)) (w' := w2) ?_ (fun u hu => Option.some.inj (Option.some.inj hu)) (phased_quiet hLi (by rfl) hph)
      clear dep old ho hsz hph hnot hyes hLi
      go_simp
    | 7, ho =>
      obtain rfl := Option.some.inj ho
      rw [if_pos (wanted_none rfl)]
      have d6 : a.tmps.getD 89 undef = .pointer (some ⟨lb, t, none⟩) := dep 6 _ _ (by kernel_rfl) rfl rfl _ rfl
      have e6 : a.tmps[89]?.getD undef = .pointer (some ⟨lb, t, none⟩) := (Array.getD_eq_getD_getElem? ..).symm.trans d6
      have hnt9 := hnot 9 (by kernel_rfl)
      unfold phased at hph
      rw [if_neg (by rw [hnot 9 (by kernel_rfl)]; decide)] at hph
      unfold phased at hph
      rw [if_neg (by rw [hLi]; decide)] at hph
      unfold phased at hph
      obtain rfl : w2 = w.drew := hph
      obtain ⟨c0, f0⟩ := HC1.out
      refine wp_skips (w' := (w.drew.setCell ⟨lb, t, none⟩ (.slice none 0 0))) ?_ (fun u hu => by cases Option.some.inj hu) ?_
      · clear hnt9
        clear dep old ho hsz hnot hyes hLi
        go_simp
      · unfold phased
        rw [if_neg (by simp [also, hnt9])]
        unfold phased
        rw [if_pos (by simp [also])]
        exact ⟨by simp [also, hyes 6 (by kernel_rfl)], rfl⟩
    | 8, ho =>
      obtain rfl := Option.some.inj ho
      rw [if_pos (wanted_none rfl)]
      have o7 := old 7 (by kernel_rfl)
      have d5 : a.tmps.getD 88 undef = .int .i64 (t : Int) := dep 5 _ _ (by kernel_rfl) rfl rfl _ rfl
      have e5 : a.tmps[88]?.getD undef = .int .i64 (t : Int) := (Array.getD_eq_getD_getElem? ..).symm.trans d5
      refine wp_yields (v := .pointer (some ⟨ob, t, none⟩)) (w' := w2) ?_ (fun u hu => Option.some.inj (Option.some.inj hu)) (phased_quiet hLi (by rfl) hph)
      clear dep old ho hsz hph hnot hyes hLi
      go_simp
    | 9, ho =>
      obtain rfl := Option.some.inj ho
      rw [if_pos (wanted_none rfl)]
      have d8 : a.tmps.getD 90 undef = .pointer (some ⟨ob, t, none⟩) := dep 8 _ _ (by kernel_rfl) rfl rfl _ rfl
      have e8 : a.tmps[90]?.getD undef = .pointer (some ⟨ob, t, none⟩) := (Array.getD_eq_getD_getElem? ..).symm.trans d8
      unfold phased at hph
      rw [if_neg (by rw [hLi]; decide)] at hph
      unfold phased at hph
      rw [if_pos (hyes 7 (by kernel_rfl))] at hph
      obtain rfl : w2 = (w.drew.setCell ⟨lb, t, none⟩ (.slice none 0 0)) := hph.2
      obtain ⟨c0, f0⟩ := HC2.out
      refine wp_skips (w' := ((w.drew.setCell ⟨lb, t, none⟩ (.slice none 0 0)).setCell ⟨ob, t, none⟩ (.bool false))) ?_ (fun u hu => by cases Option.some.inj hu) ?_
      · clear hph
        clear dep old ho hsz hnot hyes hLi
        go_simp
      · unfold phased
        rw [if_pos (by simp [also])]
        exact ⟨by simp [also, hyes 8 (by kernel_rfl)], rfl⟩
    | i + 10, ho => exact absurd ho (by simp)
  · intro a w4 hph hsz hdf fin keep
    obtain ⟨tm, df⟩ := a
    have hx := frame_of [83, 84, 85, 86, 87, 88, 89, 90] (by kernel_rfl) hsz keep
    dsimp only at hdf hx
    simp only [List.foldl_cons, List.foldl_nil] at hx
    subst hdf
    clear hsz keep
    have kn : tm.getD 83 undef = .pointer (some ⟨eb, 0, none⟩) := fin 0 _ _ rfl rfl _ rfl
    rw [kn] at hx
    clear kn
    have kn : tm.getD 84 undef = .pointer (some ⟨eb, 1, none⟩) := fin 1 _ _ rfl rfl _ rfl
    rw [kn] at hx
    clear kn
    have kn : tm.getD 85 undef = .int .i64 (t : Int) := fin 2 _ _ rfl rfl _ rfl
    rw [kn] at hx
    clear kn
    have kn : tm.getD 86 undef = .pointer (some ⟨eb, 0, none⟩) := fin 3 _ _ rfl rfl _ rfl
    rw [kn] at hx
    clear kn
    have kn : tm.getD 87 undef = .pointer (some ⟨eb, 1, none⟩) := fin 4 _ _ rfl rfl _ rfl
    rw [kn] at hx
    clear kn
    have kn : tm.getD 88 undef = .int .i64 (t : Int) := fin 5 _ _ rfl rfl _ rfl
    rw [kn] at hx
    clear kn
    have kn : tm.getD 89 undef = .pointer (some ⟨lb, t, none⟩) := fin 6 _ _ rfl rfl _ rfl
    rw [kn] at hx
    clear kn
    have kn : tm.getD 90 undef = .pointer (some ⟨ob, t, none⟩) := fin 8 _ _ rfl rfl _ rfl
    rw [kn] at hx
    clear kn
    clear fin
    simp only [List.setIfInBounds_toArray, List.set_cons_succ, List.set_cons_zero] at hx
    subst hx
    unfold phased at hph
    rw [if_pos rfl] at hph
    obtain ⟨_, hph⟩ := hph
    obtain rfl := hph
    exact HK.out _ _ _ _ _ _ _ _ _ _ _ _ _ _ _ _ _ _ _ _ _ _ _ _ _ _ _ _ _ _ _ _ _ _ _ _ _ _ _ _ _ _ _ _ _ _ _ _ _ _ _ _ _ _ _ _ _ _ _ _ _ _ _ _ _ _ _ _ _ _ _ _ _ _ _ _ _ _ _ _ _ _ _ (HQ.out)
set_option maxHeartbeats 16000000 in
theorem pl4 {w0 w : World} {RA RB RC RD : Res} {lb ob eb t f : Nat} {vs : Nat → Value} {os : Nat → Bool} {ls : Nat → List Ch} {x : Ei} {u0 u1 u2 u3 u4 u8 u10 u11 u12 u13 u14 u15 u16 u17 u18 u19 u20 u21 u22 u23 u24 u25 u26 u27 u28 u29 u30 u32 u33 u34 u35 u36 u37 u38 u39 u40 u41 u42 u43 u44 u45 u46 u47 u48 u49 u50 u51 u52 u53 u54 u55 u56 u57 u58 u59 u60 u61 u62 u63 u64 u65 u66 u67 u68 u69 u70 u71 u72 u73 u74 u75 u76 u77 u78 u79 u80 u81 u82 u83 u84 u85 u86 u87 u88 u89 u90 u91 u92 u93 u94 u95 u96 u97 u98 u99 u100 u101 u102 u103 u104 u105 u106 u107 u108 u109 u110 u111 u112 u113 u114 u115 u116 u117 u118 u119 u120 u121 u122 u123 u124 u125 u126 u127 u128 u129 u130 u131 u132 u133 u134 u135 u136 u137 u138 u139 u140 u141 u142 u143 u144 u145 u146 u147 u148 u149 u150 u151 u152 u153 u154 u155 u156 u157 u158 u159 u160 u161 u162 u163 u164 u165 u166 u167 u168 u169 u170 u171 u172 u173 u174 u175 : Value} (h : Ow w0 (fun _ => False) w (LQ RA RB RC RD lb ob vs vs os ls ++ [Res.blk eb 40 #[.int .i64 (x.r.k : Int), .int .i64 (t : Int), .int .i64 (x.r.p : Int), .int .i64 (x.r.s : Int), .string x.r.b, .string x.r.a, .string x.r.i, .slice x.A x.r.ds.length x.c, .int .u64 (x.pl : Int)]])) (ht : t < 8) (hl : (ls t).length ≤ 1000) (hk : x.r.k = 4) {Q : Exit → Act → World → Prop}
    (hK : ∀ (v11 v32 v33 v34 v35 v36 v37 v38 v39 v40 v41 v42 v43 v44 v45 v46 v47 v48 v49 v50 v51 v52 v53 v54 v55 v56 v57 v58 v59 v60 v61 v62 v63 v64 v65 v66 v67 v68 v69 v70 v71 v72 v73 v74 v75 v76 v77 v78 v79 v80 v81 v82 v83 v84 v85 v86 v87 v88 v89 v90 v91 v92 v93 v94 v95 v96 v97 v98 v99 v100 v101 v102 v103 v104 v105 v106 v107 v108 v109 v110 v111 : Value) (w' : World) (vs' : Nat → Value), Ow w0 (fun _ => False) w' (LQ RA RB RC RD lb ob vs' vs' os (setN ls t ((ls t).take ((ls t).length - 1))) ++ [Res.blk eb 40 #[.int .i64 (x.r.k : Int), .int .i64 (t : Int), .int .i64 (x.r.p : Int), .int .i64 (x.r.s : Int), .string x.r.b, .string x.r.a, .string x.r.i, .slice x.A x.r.ds.length x.c, .int .u64 (x.pl : Int)]]) → Q .normal ⟨#[u0, u1, u2, u3, u4, .int .u64 (f : Int), .pointer (some ⟨lb, 0, none⟩), .pointer (some ⟨ob, 0, none⟩), u8, .pointer (some ⟨eb, 0, none⟩), u10, v11, u12, u13, u14, u15, u16, u17, u18, u19, u20, u21, u22, u23, u24, u25, u26, u27, u28, u29, u30, .int .i64 (x.r.k : Int), v32, v33, v34, v35, v36, v37, v38, v39, v40, v41, v42, v43, v44, v45, v46, v47, v48, v49, v50, v51, v52, v53, v54, v55, v56, v57, v58, v59, v60, v61, v62, v63, v64, v65, v66, v67, v68, v69, v70, v71, v72, v73, v74, v75, v76, v77, v78, v79, v80, v81, v82, v83, v84, v85, v86, v87, v88, v89, v90, v91, v92, v93, v94, v95, v96, v97, v98, v99, v100, v101, v102, v103, v104, v105, v106, v107, v108, v109, v110, v111, u112, u113, u114, u115, u116, u117, u118, u119, u120, u121, u122, u123, u124, u125, u126, u127, u128, u129, u130, u131, u132, u133, u134, u135, u136, u137, u138, u139, u140, u141, u142, u143, u144, u145, u146, u147, u148, u149, u150, u151, u152, u153, u154, u155, u156, u157, u158, u159, u160, u161, u162, u163, u164, u165, u166, u167, u168, u169, u170, u171, u172, u173, u174, u175], []⟩ w') :
    Code.wp Try.prog (subC (Try.f3.body.getD .skip) [1,1,1,1,1,1,1,1,0,1,0,0,1,1,0,0,1,1]) Q ⟨#[u0, u1, u2, u3, u4, .int .u64 (f : Int), .pointer (some ⟨lb, 0, none⟩), .pointer (some ⟨ob, 0, none⟩), u8, .pointer (some ⟨eb, 0, none⟩), u10, u11, u12, u13, u14, u15, u16, u17, u18, u19, u20, u21, u22, u23, u24, u25, u26, u27, u28, u29, u30, .int .i64 (x.r.k : Int), u32, u33, u34, u35, u36, u37, u38, u39, u40, u41, u42, u43, u44, u45, u46, u47, u48, u49, u50, u51, u52, u53, u54, u55, u56, u57, u58, u59, u60, u61, u62, u63, u64, u65, u66, u67, u68, u69, u70, u71, u72, u73, u74, u75, u76, u77, u78, u79, u80, u81, u82, u83, u84, u85, u86, u87, u88, u89, u90, u91, u92, u93, u94, u95, u96, u97, u98, u99, u100, u101, u102, u103, u104, u105, u106, u107, u108, u109, u110, u111, u112, u113, u114, u115, u116, u117, u118, u119, u120, u121, u122, u123, u124, u125, u126, u127, u128, u129, u130, u131, u132, u133, u134, u135, u136, u137, u138, u139, u140, u141, u142, u143, u144, u145, u146, u147, u148, u149, u150, u151, u152, u153, u154, u155, u156, u157, u158, u159, u160, u161, u162, u163, u164, u165, u166, u167, u168, u169, u170, u171, u172, u173, u174, u175], []⟩ w := by
  conv => arg 2; whnf
  have g2 : ((x.r.k : Int) == 2) = false := by rw [beq_eq_false_iff_ne]; omega
  have g3 : ((x.r.k : Int) == 3) = false := by rw [beq_eq_false_iff_ne]; omega
  have g4 : ((x.r.k : Int) == 4) = true := by rw [hk]; rfl
  have h4 : (t : Int) < 8 := by omega
  have h0 : (0 : Int) ≤ (t : Int) := by omega
  obtain ⟨A, c, e⟩ := (h.rowsAt (i := 6) rfl ht).form
  obtain ⟨l, hll⟩ : ∃ l, (ls t).length = l := ⟨_, rfl⟩
  obtain ⟨r, hr⟩ : ∃ r, (ls t).length - 1 = r := ⟨_, rfl⟩
  rw [hr] at hK
  have HK := hide hK
  clear hK
  have hz : max ((l : Int) - 1) 0 = (r : Int) := by omega
  have hli : (l : Int) ≤ 1000 := by omega
  rw [hll] at e
  have hrow := h.rowsAt (i := 6) rfl ht
  rw [e] at hrow
  have hcap := hrow.cap.2
  have HLO : Hid (∀ W, (Instr.slice 28 (.slice A l c) none (some (.int .i64 (r : Int))) none).run Try.prog W = .ok (.slice A r c) W) := hide (fun W => run_lowC A l c r (by omega) W)
  have SC := h.rowsCut (i := 6) (v' := .slice A r c) (es' := (ls t).take r) rfl ht (hrow.low (by omega)) (fun k e2 => by rw [e]; cases A with | none => cases e2 | some a => exact e2)
  have SC : Ow w0 (fun _ => False) w (LQ RA RB RC RD lb ob vs (setN vs t (.slice A r c)) os (setN ls t ((ls t).take r)) ++ [Res.blk eb 40 #[.int .i64 (x.r.k : Int), .int .i64 (t : Int), .int .i64 (x.r.p : Int), .int .i64 (x.r.s : Int), .string x.r.b, .string x.r.a, .string x.r.i, .slice x.A x.r.ds.length x.c, .int .u64 (x.pl : Int)]]) := SC
  have HSC := hide SC
  have HEB : Hid (Blk w eb 40 #[.int .i64 (x.r.k : Int), .int .i64 (t : Int), .int .i64 (x.r.p : Int), .int .i64 (x.r.s : Int), .string x.r.b, .string x.r.a, .string x.r.i, .slice x.A x.r.ds.length x.c, .int .u64 (x.pl : Int)]) := hide (h.blk (i := 7) rfl)
  have HLB : Hid (Blk w lb 34 (cellsN 8 vs)) := hide (h.blk (i := 4) rfl)
  have HAT : Hid ((cellsN 8 vs)[t]? = some (.slice A l c)) := hide (by rw [cellsN_at vs ht, e])
  have HST : Hid (∀ w2, Below w.heap.size w w2 → w2.cell? ⟨lb, t, none⟩ = some (.slice A l c) ∧ w2.frozen? ⟨lb, t, none⟩ = false) := hide (fun w2 hb => ⟨by rw [← e]; exact (LQ.cells (SC.below hb) ht).1, (LQ.cells (SC.below hb) ht).2.2.1⟩)
  clear SC h e hll hr hk hl ht hrow hcap
  go_upto_region 18 with (fail)
  refine region_store 18 [Say.is (.pointer (some ⟨eb, 0, none⟩)), Say.is (.pointer (some ⟨eb, 1, none⟩)), Say.is (.int .i64 (t : Int)), Say.is (.pointer (some ⟨eb, 0, none⟩)), Say.is (.pointer (some ⟨eb, 1, none⟩)), Say.is (.int .i64 (t : Int)), Say.is (.pointer (some ⟨lb, t, none⟩)), Say.is (.slice A l c), Say.is (.pointer (some ⟨eb, 0, none⟩)), Say.is (.pointer (some ⟨eb, 1, none⟩)), Say.is (.int .i64 (t : Int)), Say.is (.pointer (some ⟨lb, t, none⟩)), Say.is (.slice A l c), Say.is (.int .i64 (l : Int)), Say.is (.int .i64 ((l : Int) - 1)), Say.is (.int .i64 (r : Int)), Say.is (.slice A r c), Say.is (.pointer (some ⟨lb, t, none⟩))] (fun w9 => ∃ w2, Below w.heap.size w w2 ∧ w9 = w2.setCell ⟨lb, t, none⟩ (.slice A r c)) rfl rfl rfl rfl (by kernel_rfl) (by kernel_rfl) (by kernel_rfl) (by kernel_rfl) (by kernel_rfl) ?_ ?_ ?_
  · intro i o hik ho a w2 hb hsz old dep
    match i, ho with
    | 0, ho =>
      obtain rfl := Option.some.inj ho
      have o9 : a.tmps.getD 9 undef = _ := old 9 (by kernel_rfl)
      rw [if_pos (wanted_none rfl)]
      refine grow_same (v := .pointer (some ⟨eb, 0, none⟩)) ?_ rfl
      clear old dep ho hsz hb
      go_simp
    | 1, ho =>
      obtain rfl := Option.some.inj ho
      have d0 : a.tmps.getD 62 undef = .pointer (some ⟨eb, 0, none⟩) := dep 0 _ _ (by kernel_rfl) rfl rfl
      have e0 : a.tmps[62]?.getD undef = _ := (Array.getD_eq_getD_getElem? ..).symm.trans d0
      rw [if_pos (wanted_none rfl)]
      refine grow_same (v := .pointer (some ⟨eb, 1, none⟩)) ?_ rfl
      clear old dep ho hsz hb
      go_simp
    | 2, ho =>
      obtain rfl := Option.some.inj ho
      have d1 : a.tmps.getD 63 undef = .pointer (some ⟨eb, 1, none⟩) := dep 1 _ _ (by kernel_rfl) rfl rfl
      have e1 : a.tmps[63]?.getD undef = _ := (Array.getD_eq_getD_getElem? ..).symm.trans d1
      rw [if_pos (wanted_none rfl)]
      have hx := HEB.out.below hb
      have c0 := hx.cell 1 _ rfl
      clear hx
      refine grow_same (v := .int .i64 (t : Int)) ?_ rfl
      clear old dep ho hsz hb
      go_simp
    | 3, ho =>
      obtain rfl := Option.some.inj ho
      have o9 : a.tmps.getD 9 undef = _ := old 9 (by kernel_rfl)
      rw [if_pos (wanted_none rfl)]
      refine grow_same (v := .pointer (some ⟨eb, 0, none⟩)) ?_ rfl
      clear old dep ho hsz hb
      go_simp
    | 4, ho =>
      obtain rfl := Option.some.inj ho
      have d3 : a.tmps.getD 65 undef = .pointer (some ⟨eb, 0, none⟩) := dep 3 _ _ (by kernel_rfl) rfl rfl
      have e3 : a.tmps[65]?.getD undef = _ := (Array.getD_eq_getD_getElem? ..).symm.trans d3
      rw [if_pos (wanted_none rfl)]
      refine grow_same (v := .pointer (some ⟨eb, 1, none⟩)) ?_ rfl
      clear old dep ho hsz hb
      go_simp
    | 5, ho =>
      obtain rfl := Option.some.inj ho
      have d4 : a.tmps.getD 66 undef = .pointer (some ⟨eb, 1, none⟩) := dep 4 _ _ (by kernel_rfl) rfl rfl
      have e4 : a.tmps[66]?.getD undef = _ := (Array.getD_eq_getD_getElem? ..).symm.trans d4
      rw [if_pos (wanted_none rfl)]
      have hx := HEB.out.below hb
      have c0 := hx.cell 1 _ rfl
      clear hx
      refine grow_same (v := .int .i64 (t : Int)) ?_ rfl
      clear old dep ho hsz hb
      go_simp
    | 6, ho =>
      obtain rfl := Option.some.inj ho
      have o6 : a.tmps.getD 6 undef = _ := old 6 (by kernel_rfl)
      have d5 : a.tmps.getD 67 undef = .int .i64 (t : Int) := dep 5 _ _ (by kernel_rfl) rfl rfl
      have e5 : a.tmps[67]?.getD undef = _ := (Array.getD_eq_getD_getElem? ..).symm.trans d5
      rw [if_pos (wanted_none rfl)]
      refine grow_same (v := .pointer (some ⟨lb, t, none⟩)) ?_ rfl
      clear old dep ho hsz hb
      go_simp
    | 7, ho =>
      obtain rfl := Option.some.inj ho
      have d6 : a.tmps.getD 68 undef = .pointer (some ⟨lb, t, none⟩) := dep 6 _ _ (by kernel_rfl) rfl rfl
      have e6 : a.tmps[68]?.getD undef = _ := (Array.getD_eq_getD_getElem? ..).symm.trans d6
      rw [if_pos (wanted_none rfl)]
      have c0 := (HLB.out.below hb).cell t _ HAT.out
      refine grow_same (v := .slice A l c) ?_ rfl
      clear old dep ho hsz hb
      go_simp
    | 8, ho =>
      obtain rfl := Option.some.inj ho
      have o9 : a.tmps.getD 9 undef = _ := old 9 (by kernel_rfl)
      rw [if_pos (wanted_none rfl)]
      refine grow_same (v := .pointer (some ⟨eb, 0, none⟩)) ?_ rfl
      clear old dep ho hsz hb
      go_simp
    | 9, ho =>
      obtain rfl := Option.some.inj ho
      have d8 : a.tmps.getD 70 undef = .pointer (some ⟨eb, 0, none⟩) := dep 8 _ _ (by kernel_rfl) rfl rfl
      have e8 : a.tmps[70]?.getD undef = _ := (Array.getD_eq_getD_getElem? ..).symm.trans d8
      rw [if_pos (wanted_none rfl)]
      refine grow_same (v := .pointer (some ⟨eb, 1, none⟩)) ?_ rfl
      clear old dep ho hsz hb
      go_simp
    | 10, ho =>
      obtain rfl := Option.some.inj ho
      have d9 : a.tmps.getD 71 undef = .pointer (some ⟨eb, 1, none⟩) := dep 9 _ _ (by kernel_rfl) rfl rfl
      have e9 : a.tmps[71]?.getD undef = _ := (Array.getD_eq_getD_getElem? ..).symm.trans d9
      rw [if_pos (wanted_none rfl)]
      have hx := HEB.out.below hb
      have c0 := hx.cell 1 _ rfl
      clear hx
      refine grow_same (v := .int .i64 (t : Int)) ?_ rfl
      clear old dep ho hsz hb
      go_simp
    | 11, ho =>
      obtain rfl := Option.some.inj ho
      have o6 : a.tmps.getD 6 undef = _ := old 6 (by kernel_rfl)
      have d10 : a.tmps.getD 72 undef = .int .i64 (t : Int) := dep 10 _ _ (by kernel_rfl) rfl rfl
      have e10 : a.tmps[72]?.getD undef = _ := (Array.getD_eq_getD_getElem? ..).symm.trans d10
      rw [if_pos (wanted_none rfl)]
      refine grow_same (v := .pointer (some ⟨lb, t, none⟩)) ?_ rfl
      clear old dep ho hsz hb
      go_simp
    | 12, ho =>
      obtain rfl := Option.some.inj ho
      have d11 : a.tmps.getD 73 undef = .pointer (some ⟨lb, t, none⟩) := dep 11 _ _ (by kernel_rfl) rfl rfl
      have e11 : a.tmps[73]?.getD undef = _ := (Array.getD_eq_getD_getElem? ..).symm.trans d11
      rw [if_pos (wanted_none rfl)]
      have c0 := (HLB.out.below hb).cell t _ HAT.out
      refine grow_same (v := .slice A l c) ?_ rfl
      clear old dep ho hsz hb
      go_simp
    | 13, ho =>
      obtain rfl := Option.some.inj ho
      have d12 : a.tmps.getD 74 undef = .slice A l c := dep 12 _ _ (by kernel_rfl) rfl rfl
      have e12 : a.tmps[74]?.getD undef = _ := (Array.getD_eq_getD_getElem? ..).symm.trans d12
      rw [if_pos (wanted_none rfl)]
      refine grow_same (v := .int .i64 (l : Int)) ?_ rfl
      clear old dep ho hsz hb
      go_simp
    | 14, ho =>
      obtain rfl := Option.some.inj ho
      have d13 : a.tmps.getD 75 undef = .int .i64 (l : Int) := dep 13 _ _ (by kernel_rfl) rfl rfl
      have e13 : a.tmps[75]?.getD undef = _ := (Array.getD_eq_getD_getElem? ..).symm.trans d13
      rw [if_pos (wanted_none rfl)]
      refine grow_same (v := .int .i64 ((l : Int) - 1)) ?_ rfl
      clear old dep ho hsz hb
      go_simp
      rw [IntKind.wrap_i64]
      omega
    | 15, ho =>
      obtain rfl := Option.some.inj ho
      have d14 : a.tmps.getD 76 undef = .int .i64 ((l : Int) - 1) := dep 14 _ _ (by kernel_rfl) rfl rfl
      have e14 : a.tmps[76]?.getD undef = _ := (Array.getD_eq_getD_getElem? ..).symm.trans d14
      rw [if_pos (wanted_none rfl)]
      refine grow_same (v := .int .i64 (r : Int)) ?_ rfl
      clear old dep ho hsz hb
      go_simp
    | 16, ho =>
      obtain rfl := Option.some.inj ho
      have d7 : a.tmps.getD 69 undef = .slice A l c := dep 7 _ _ (by kernel_rfl) rfl rfl
      have e7 : a.tmps[69]?.getD undef = _ := (Array.getD_eq_getD_getElem? ..).symm.trans d7
      have d15 : a.tmps.getD 77 undef = .int .i64 (r : Int) := dep 15 _ _ (by kernel_rfl) rfl rfl
      have e15 : a.tmps[77]?.getD undef = _ := (Array.getD_eq_getD_getElem? ..).symm.trans d15
      rw [if_pos (wanted_none rfl)]
      have hlo := HLO.out w2
      refine grow_same (v := .slice A r c) ?_ rfl
      clear old dep ho hsz hb
      go_simp
    | 17, ho =>
      obtain rfl := Option.some.inj ho
      have o6 : a.tmps.getD 6 undef = _ := old 6 (by kernel_rfl)
      have d2 : a.tmps.getD 64 undef = .int .i64 (t : Int) := dep 2 _ _ (by kernel_rfl) rfl rfl
      have e2 : a.tmps[64]?.getD undef = _ := (Array.getD_eq_getD_getElem? ..).symm.trans d2
      rw [if_pos (wanted_none rfl)]
      refine grow_same (v := .pointer (some ⟨lb, t, none⟩)) ?_ rfl
      clear old dep ho hsz hb
      go_simp
    | i + 18, ho => exact absurd hik (by omega)
  · intro a w2 hb hsz old dep
    have d16 : a.tmps.getD 78 undef = .slice A r c := dep 16 _ _ (by kernel_rfl) rfl rfl
    have e16 : a.tmps[78]?.getD undef = _ := (Array.getD_eq_getD_getElem? ..).symm.trans d16
    have d17 : a.tmps.getD 79 undef = .pointer (some ⟨lb, t, none⟩) := dep 17 _ _ (by kernel_rfl) rfl rfl
    have e17 : a.tmps[79]?.getD undef = _ := (Array.getD_eq_getD_getElem? ..).symm.trans d17
    obtain ⟨hbk, hf0⟩ := HST.out w2 hb
    have c0 := hbk
    have f0 := hf0
    refine ⟨w2.setCell ⟨lb, t, none⟩ (.slice A r c), ?_, w2, hb, rfl⟩
    clear old dep hsz hb hbk hf0
    go_simp
  · intro a w4 hR hsz hdf keep
    obtain ⟨tm, df⟩ := a
    have hx := frame_of [62, 63, 64, 65, 66, 67, 68, 69, 70, 71, 72, 73, 74, 75, 76, 77, 78, 79] (by kernel_rfl) hsz keep
    dsimp only at hdf hx
    simp only [List.foldl_cons, List.foldl_nil] at hx
    subst hdf
    clear hsz keep
    generalize tm.getD 62 undef = y62 at hx
    generalize tm.getD 63 undef = y63 at hx
    generalize tm.getD 64 undef = y64 at hx
    generalize tm.getD 65 undef = y65 at hx
    generalize tm.getD 66 undef = y66 at hx
    generalize tm.getD 67 undef = y67 at hx
    generalize tm.getD 68 undef = y68 at hx
    generalize tm.getD 69 undef = y69 at hx
    generalize tm.getD 70 undef = y70 at hx
    generalize tm.getD 71 undef = y71 at hx
    generalize tm.getD 72 undef = y72 at hx
    generalize tm.getD 73 undef = y73 at hx
    generalize tm.getD 74 undef = y74 at hx
    generalize tm.getD 75 undef = y75 at hx
    generalize tm.getD 76 undef = y76 at hx
    generalize tm.getD 77 undef = y77 at hx
    generalize tm.getD 78 undef = y78 at hx
    generalize tm.getD 79 undef = y79 at hx
    simp only [List.setIfInBounds_toArray, List.set_cons_succ, List.set_cons_zero] at hx
    subst hx
    obtain ⟨w2, hb, rfl⟩ := hR
    have HS := hide (LQ.storeLo (t := t) (HSC.out.below hb) (.slice A r c))
    clear hb
    exact HK.out _ _ _ _ _ _ _ _ _ _ _ _ _ _ _ _ _ _ _ _ _ _ _ _ _ _ _ _ _ _ _ _ _ _ _ _ _ _ _ _ _ _ _ _ _ _ _ _ _ _ _ _ _ _ _ _ _ _ _ _ _ _ _ _ _ _ _ _ _ _ _ _ _ _ _ _ _ _ _ _ _ _ _ (HS.out)
set_option maxHeartbeats 16000000 in
theorem pl7 {w0 w : World} {RA RB RC RD : Res} {lb ob eb t f : Nat} {vs : Nat → Value} {os : Nat → Bool} {ls : Nat → List Ch} {x : Ei} {u0 u1 u2 u3 u4 u8 u10 u11 u12 u13 u14 u15 u16 u17 u18 u19 u20 u21 u22 u23 u24 u25 u26 u27 u28 u29 u30 u32 u33 u34 u35 u36 u37 u38 u39 u40 u41 u42 u43 u44 u45 u46 u47 u48 u49 u50 u51 u52 u53 u54 u55 u56 u57 u58 u59 u60 u61 u62 u63 u64 u65 u66 u67 u68 u69 u70 u71 u72 u73 u74 u75 u76 u77 u78 u79 u80 u81 u82 u83 u84 u85 u86 u87 u88 u89 u90 u91 u92 u93 u94 u95 u96 u97 u98 u99 u100 u101 u102 u103 u104 u105 u106 u107 u108 u109 u110 u111 u112 u113 u114 u115 u116 u117 u118 u119 u120 u121 u122 u123 u124 u125 u126 u127 u128 u129 u130 u131 u132 u133 u134 u135 u136 u137 u138 u139 u140 u141 u142 u143 u144 u145 u146 u147 u148 u149 u150 u151 u152 u153 u154 u155 u156 u157 u158 u159 u160 u161 u162 u163 u164 u165 u166 u167 u168 u169 u170 u171 u172 u173 u174 u175 : Value} (h : Ow w0 (fun _ => False) w (LQ RA RB RC RD lb ob vs vs os ls ++ [Res.blk eb 40 #[.int .i64 (x.r.k : Int), .int .i64 (t : Int), .int .i64 (x.r.p : Int), .int .i64 (x.r.s : Int), .string x.r.b, .string x.r.a, .string x.r.i, .slice x.A x.r.ds.length x.c, .int .u64 (x.pl : Int)]])) (ht : t < 8) (hl : (ls t).length ≤ 1000) (hk : x.r.k = 7) (hd : DOk w x) {Q : Exit → Act → World → Prop}
    (hK : ∀ (v11 v32 v33 v34 v35 v36 v37 v38 v39 v40 v41 v42 v43 v44 v45 v46 v47 v48 v49 v50 v51 v52 v53 v54 v55 v56 v57 v58 v59 v60 v61 v62 v63 v64 v65 v66 v67 v68 v69 v70 v71 v72 v73 v74 v75 v76 v77 v78 v79 v80 v81 v82 v83 v84 v85 v86 v87 v88 v89 v90 v91 v92 v93 v94 v95 v96 v97 v98 v99 v100 v101 v102 v103 v104 v105 v106 v107 v108 v109 v110 v111 : Value) (w' : World) (vs' : Nat → Value), Ow w0 (fun _ => False) w' (LQ RA RB RC RD lb ob vs' vs' os ls ++ [Res.blk eb 40 #[.int .i64 (x.r.k : Int), .int .i64 (t : Int), .int .i64 (x.r.p : Int), .int .i64 (x.r.s : Int), .string x.r.b, .string x.r.a, .string x.r.i, .slice x.A x.r.ds.length x.c, .int .u64 (x.pl : Int)]]) → Q .normal ⟨#[u0, u1, u2, u3, u4, .int .u64 ((markN x.r.ds x.pl) : Int), .pointer (some ⟨lb, 0, none⟩), .pointer (some ⟨ob, 0, none⟩), u8, .pointer (some ⟨eb, 0, none⟩), u10, v11, u12, u13, u14, u15, u16, u17, u18, u19, u20, u21, u22, u23, u24, u25, u26, u27, u28, u29, u30, .int .i64 (x.r.k : Int), v32, v33, v34, v35, v36, v37, v38, v39, v40, v41, v42, v43, v44, v45, v46, v47, v48, v49, v50, v51, v52, v53, v54, v55, v56, v57, v58, v59, v60, v61, v62, v63, v64, v65, v66, v67, v68, v69, v70, v71, v72, v73, v74, v75, v76, v77, v78, v79, v80, v81, v82, v83, v84, v85, v86, v87, v88, v89, v90, v91, v92, v93, v94, v95, v96, v97, v98, v99, v100, v101, v102, v103, v104, v105, v106, v107, v108, v109, v110, v111, u112, u113, u114, u115, u116, u117, u118, u119, u120, u121, u122, u123, u124, u125, u126, u127, u128, u129, u130, u131, u132, u133, u134, u135, u136, u137, u138, u139, u140, u141, u142, u143, u144, u145, u146, u147, u148, u149, u150, u151, u152, u153, u154, u155, u156, u157, u158, u159, u160, u161, u162, u163, u164, u165, u166, u167, u168, u169, u170, u171, u172, u173, u174, u175], []⟩ w') :
    Code.wp Try.prog (subC (Try.f3.body.getD .skip) [1,1,1,1,1,1,1,1,0,1,0,0,1,1,0,0,1,1]) Q ⟨#[u0, u1, u2, u3, u4, .int .u64 (f : Int), .pointer (some ⟨lb, 0, none⟩), .pointer (some ⟨ob, 0, none⟩), u8, .pointer (some ⟨eb, 0, none⟩), u10, u11, u12, u13, u14, u15, u16, u17, u18, u19, u20, u21, u22, u23, u24, u25, u26, u27, u28, u29, u30, .int .i64 (x.r.k : Int), u32, u33, u34, u35, u36, u37, u38, u39, u40, u41, u42, u43, u44, u45, u46, u47, u48, u49, u50, u51, u52, u53, u54, u55, u56, u57, u58, u59, u60, u61, u62, u63, u64, u65, u66, u67, u68, u69, u70, u71, u72, u73, u74, u75, u76, u77, u78, u79, u80, u81, u82, u83, u84, u85, u86, u87, u88, u89, u90, u91, u92, u93, u94, u95, u96, u97, u98, u99, u100, u101, u102, u103, u104, u105, u106, u107, u108, u109, u110, u111, u112, u113, u114, u115, u116, u117, u118, u119, u120, u121, u122, u123, u124, u125, u126, u127, u128, u129, u130, u131, u132, u133, u134, u135, u136, u137, u138, u139, u140, u141, u142, u143, u144, u145, u146, u147, u148, u149, u150, u151, u152, u153, u154, u155, u156, u157, u158, u159, u160, u161, u162, u163, u164, u165, u166, u167, u168, u169, u170, u171, u172, u173, u174, u175], []⟩ w := by
  conv => arg 2; whnf
  obtain ⟨⟨A, c, e, hc, hrd⟩, h6⟩ := hd
  unfold Ei.dv at e
  injection e with e1 e2 e3
  rw [← e1, u64s_length] at hrd
  clear e1 e2 e3 hc
  generalize hn : x.r.ds.length = n at *
  generalize x.A = A0 at *
  have HK := hide hK
  clear hK
  have HN := hide hn
  have HR := hide hrd
  have HH := hide h
  obtain ⟨y0, y1, y2, y3, y4, y5, y6, y7, y8⟩ := (h.blk (i := 7) rfl).nine
  have hni : (n : Int) ≤ 6 := by omega
  have g2 : ((x.r.k : Int) == 2) = false := by rw [beq_eq_false_iff_ne]; omega
  have g3 : ((x.r.k : Int) == 3) = false := by rw [beq_eq_false_iff_ne]; omega
  have g4 : ((x.r.k : Int) == 4) = false := by rw [beq_eq_false_iff_ne]; omega
  have g5 : ((x.r.k : Int) == 5) = false := by rw [beq_eq_false_iff_ne]; omega
  have g6 : ((x.r.k : Int) == 6) = false := by rw [beq_eq_false_iff_ne]; omega
  have g7 : ((x.r.k : Int) == 7) = true := by rw [hk]; rfl
  clear hk h ht hl hn hrd h6
  go_wp2
  go_loopw [5, 99] (fun m i wr => ∃ (j q : Nat), j ≤ n ∧ i = .int .i64 j ∧ m = .int .u64 (q : Int) ∧ Hid (q = markN (x.r.ds.take j) x.pl) ∧ Hid (Alike w wr)) (fun _ i _ => n - (intOf i).toNat)
  case atStart => exact ⟨0, x.pl, by omega, rfl, rfl, hide rfl, hide rfl⟩
  case round =>
    clear y0 y1 y2 y3 y4 y5 y6 y7 y8
    obtain ⟨j, q, hj, rfl, rfl, hq, hw⟩ := hrel
    obtain rfl : wr = w := hw.out
    by_cases hlt : j < n
    · obtain ⟨d, hc⟩ : ∃ d, x.r.ds[j]? = some d := ⟨_, List.getElem?_eq_getElem (by have := HN.out; omega)⟩
      obtain ⟨b, o, rfl, hbk, hcell⟩ := HR.out (by omega)
      have i0 : wr.cell? ⟨b, o + j, none⟩ = some (.int .u64 (d : Int)) := hcell j _ (by unfold u64s; rw [List.getElem?_map, hc]; rfl)
      have HM := hide (markN_take (pl := x.pl) hc)
      have q0 : (0 : Int) ≤ (j : Int) := by omega
      have q1 : (j : Int) < (n : Int) := by omega
      have HLT := hide hlt
      clear hcell hc hlt hbk
      by_cases hd0 : 0 < d
      · have g0 : decide (0 < d) = true := decide_eq_true hd0
        by_cases hdq : d < q
        · have g1 : decide (d < q) = true := decide_eq_true hdq
          have HD : Hid (d = markN (x.r.ds.take (j + 1)) x.pl) := hide (by rw [HM.out, ← hq.out, if_pos ⟨hd0, hdq⟩])
          clear hd0 hdq
          go_wp2
          go_roundw
          case rel => exact ⟨j + 1, d, by have := HLT.out; omega, by go_num, rfl, HD, hide rfl⟩
          case measure => simp [intOf]; have := HLT.out; omega
        · have g1 : decide (d < q) = false := decide_eq_false hdq
          have HD : Hid (q = markN (x.r.ds.take (j + 1)) x.pl) := hide (by rw [HM.out, ← hq.out, if_neg (fun h => hdq h.2)])
          clear hd0 hdq
          go_wp2
          go_roundw
          case rel => exact ⟨j + 1, q, by have := HLT.out; omega, by go_num, rfl, HD, hide rfl⟩
          case measure => simp [intOf]; have := HLT.out; omega
      · have g0 : decide (0 < d) = false := decide_eq_false hd0
        have HD : Hid (q = markN (x.r.ds.take (j + 1)) x.pl) := hide (by rw [HM.out, ← hq.out, if_neg (fun h => hd0 h.1)])
        clear hd0
        go_wp2
        go_roundw
        case rel => exact ⟨j + 1, q, by have := HLT.out; omega, by go_num, rfl, HD, hide rfl⟩
        case measure => simp [intOf]; have := HLT.out; omega
    · have q1 : ¬ (j : Int) < (n : Int) := by omega
      obtain rfl : q = markN x.r.ds x.pl := by rw [hq.out, List.take_of_length_le (by have := HN.out; omega)]
      clear hlt
      go_wp2
      exact HK.out _ _ _ _ _ _ _ _ _ _ _ _ _ _ _ _ _ _ _ _ _ _ _ _ _ _ _ _ _ _ _ _ _ _ _ _ _ _ _ _ _ _ _ _ _ _ _ _ _ _ _ _ _ _ _ _ _ _ _ _ _ _ _ _ _ _ _ _ _ _ _ _ _ _ _ _ _ _ _ _ _ _ _ (HH.out)
end Go.Proofs.Ytoifghofkjomnaa
