/-
  RestartPlans' walk: one transaction compared; the switch whole.
-/
import Derived.Test.YtoifghofkjomnaaPla12
import Derived.BigQuiet
import Derived.Deep.CutBlock
namespace Go.Proofs.Ytoifghofkjomnaa
open Go.RowKit
set_option maxRecDepth 100000
set_option linter.unusedSimpArgs false
set_option linter.unusedVariables false

set_option maxHeartbeats 16000000 in
theorem pc1 {w0 w : World} {RA RB : Res} {pb lb ob f5 : Nat} {A5 : Nat → Option Addr} {n5 c5 : Nat → Nat} {o5 : Nat → Bool} {lq : Nat → List Ch} {vs : Nat → Value} {os : Nat → Bool} {ls : Nat → List Ch} {u0 u1 u2 u3 u5 u8 u9 u10 u11 u13 u14 u15 u16 u17 u18 u19 u20 u21 u22 u23 u24 u25 u26 u27 u28 u29 u30 u31 u32 u33 u34 u35 u36 u37 u38 u39 u40 u41 u42 u43 u44 u45 u46 u47 u48 u49 u50 u51 u52 u53 u54 u55 u56 u57 u58 u59 u60 u61 u62 u63 u64 u65 u66 u67 u68 u69 u70 u71 u72 u73 u74 u75 u76 u77 u78 u79 u80 u81 u82 u83 u84 u85 u86 u87 u88 u89 u90 u91 u92 u93 u94 u95 u96 u97 u98 u99 u100 u101 u102 u103 u104 u105 u106 u107 u108 u109 u110 u111 u112 u113 u114 u115 u116 u117 u118 u119 u120 u121 u122 u123 u124 u125 u126 u127 u128 u129 u130 u131 u132 u133 u134 u135 u136 u137 u138 u139 u140 u141 u142 u143 u144 u145 u146 u147 u148 u149 u150 u151 u152 u153 u154 u155 u156 u157 u158 u159 u160 u161 u162 u163 u164 u165 u166 u167 u168 u169 u170 u171 u172 u173 u174 u175 : Value} (h : Ow w0 (fun _ => False) w (LQ RA RB (Res.kins chK 4 (fun t => .slice (A5 t) (n5 t) (c5 t)) lq) (Res.blk pb 32 #[.int .u64 (f5 : Int), .slice (A5 0) (n5 0) (c5 0), .slice (A5 1) (n5 1) (c5 1), .slice (A5 2) (n5 2) (c5 2), .slice (A5 3) (n5 3) (c5 3), .bool (o5 0), .bool (o5 1), .bool (o5 2), .bool (o5 3)]) lb ob vs vs os ls)) (hn : n5 1 = (lq 1).length) (ho : o5 1 = os 1) (hlo : lq 1 = ls 1) (hl : (ls 1).length ≤ 1000) {Q : Exit → Act → World → Prop}
    (hK : ∀ (v2 v13 v117 v118 v119 v120 v121 v122 v123 v124 v125 v126 v127 v128 v129 v130 v131 v132 v133 v134 v135 v136 v137 v138 v139 v140 v141 v142 v143 v144 v145 v146 v147 v148 v149 v150 v151 v152 v153 v154 v155 v156 v157 v158 : Value) (w' : World), Ow w0 (fun _ => False) w' (LQ RA RB (Res.kins chK 4 (fun t => .slice (A5 t) (n5 t) (c5 t)) lq) (Res.blk pb 32 #[.int .u64 (f5 : Int), .slice (A5 0) (n5 0) (c5 0), .slice (A5 1) (n5 1) (c5 1), .slice (A5 2) (n5 2) (c5 2), .slice (A5 3) (n5 3) (c5 3), .bool (o5 0), .bool (o5 1), .bool (o5 2), .bool (o5 3)]) lb ob vs vs os ls) → Q .normal ⟨#[u0, u1, v2, u3, .pointer (some ⟨pb, 0, none⟩), u5, .pointer (some ⟨lb, 0, none⟩), .pointer (some ⟨ob, 0, none⟩), u8, u9, u10, u11, .int .i64 1, v13, u14, u15, u16, u17, u18, u19, u20, u21, u22, u23, u24, u25, u26, u27, u28, u29, u30, u31, u32, u33, u34, u35, u36, u37, u38, u39, u40, u41, u42, u43, u44, u45, u46, u47, u48, u49, u50, u51, u52, u53, u54, u55, u56, u57, u58, u59, u60, u61, u62, u63, u64, u65, u66, u67, u68, u69, u70, u71, u72, u73, u74, u75, u76, u77, u78, u79, u80, u81, u82, u83, u84, u85, u86, u87, u88, u89, u90, u91, u92, u93, u94, u95, u96, u97, u98, u99, u100, u101, u102, u103, u104, u105, u106, u107, u108, u109, u110, u111, u112, u113, u114, u115, u116, v117, v118, v119, v120, v121, v122, v123, v124, v125, v126, v127, v128, v129, v130, v131, v132, v133, v134, v135, v136, v137, v138, v139, v140, v141, v142, v143, v144, v145, v146, v147, v148, v149, v150, v151, v152, v153, v154, v155, v156, v157, v158, u159, u160, u161, u162, u163, u164, u165, u166, u167, u168, u169, u170, u171, u172, u173, u174, u175], []⟩ w') :
    Code.wp Try.prog (subC (Try.f3.body.getD .skip) [1,1,1,1,1,1,1,1,1,0,1,0,0,1,0]) Q ⟨#[u0, u1, u2, u3, .pointer (some ⟨pb, 0, none⟩), u5, .pointer (some ⟨lb, 0, none⟩), .pointer (some ⟨ob, 0, none⟩), u8, u9, u10, u11, .int .i64 1, u13, u14, u15, u16, u17, u18, u19, u20, u21, u22, u23, u24, u25, u26, u27, u28, u29, u30, u31, u32, u33, u34, u35, u36, u37, u38, u39, u40, u41, u42, u43, u44, u45, u46, u47, u48, u49, u50, u51, u52, u53, u54, u55, u56, u57, u58, u59, u60, u61, u62, u63, u64, u65, u66, u67, u68, u69, u70, u71, u72, u73, u74, u75, u76, u77, u78, u79, u80, u81, u82, u83, u84, u85, u86, u87, u88, u89, u90, u91, u92, u93, u94, u95, u96, u97, u98, u99, u100, u101, u102, u103, u104, u105, u106, u107, u108, u109, u110, u111, u112, u113, u114, u115, u116, u117, u118, u119, u120, u121, u122, u123, u124, u125, u126, u127, u128, u129, u130, u131, u132, u133, u134, u135, u136, u137, u138, u139, u140, u141, u142, u143, u144, u145, u146, u147, u148, u149, u150, u151, u152, u153, u154, u155, u156, u157, u158, u159, u160, u161, u162, u163, u164, u165, u166, u167, u168, u169, u170, u171, u172, u173, u174, u175], []⟩ w := by
  conv => arg 2; whnf
  have HK := hide hK
  clear hK
  obtain ⟨A, c, e⟩ := (h.rowsAt (i := 6) rfl (t := 1) (by decide)).form
  obtain ⟨l, hll⟩ : ∃ l, ls 1 = l := ⟨_, rfl⟩
  obtain ⟨bo, hbo⟩ : ∃ bo, os 1 = bo := ⟨_, rfl⟩
  rw [hll] at e hl hlo
  rw [hlo] at hn
  rw [hbo] at ho
  have HE := hide e
  have HN5 := hide hn
  have HO5 := hide ho
  have HOS := hide hbo
  have HLL := hide hll
  have HLQ := hide hlo
  have HL := hide hl
  have H := hide h
  have hbx : (bo != bo) = false := by cases bo <;> rfl
  have hbx2 : decide (l.length ≠ l.length) = false := by simp
  clear h e hn ho hbo hll hlo hl
  obtain ⟨p0, p1, p2, p3, p4, p5, p6, p7, p8⟩ := (H.out.blk (i := 3) rfl).nine
  rw [HN5.out] at p2
  rw [HO5.out] at p6
  have z0 := (H.out.blk (i := 4) rfl).cell 1 _ (cellsN_at vs (by decide))
  rw [HE.out] at z0
  have y0 := (H.out.blk (i := 5) rfl).cell 1 _ (cellsN_at (fun t => Value.bool (os t)) (by decide))
  rw [HOS.out] at y0
  go_upto_region 34 with (fail)
  go_quiet (fail)
  have S8 := hide (H.out.below (below_drewN _ nq))
  clear p0 p1 p2 p3 p4 p5 p6 p7 p8 z0 y0
  obtain ⟨p0, p1, p2, p3, p4, p5, p6, p7, p8⟩ := (S8.out.blk (i := 3) rfl).nine
  rw [HN5.out] at p2
  rw [HO5.out] at p6
  have z0 := (S8.out.blk (i := 4) rfl).cell 1 _ (cellsN_at vs (by decide))
  rw [HE.out] at z0
  have y0 := (S8.out.blk (i := 5) rfl).cell 1 _ (cellsN_at (fun t => Value.bool (os t)) (by decide))
  rw [HOS.out] at y0
  clear H
  go_wp2
  clear p0 p1 p2 p3 p4 p5 p6 p7 p8 z0 y0
  go_loopw [141] (fun i wr => ∃ j : Nat, j ≤ l.length ∧ i = .int .i64 j ∧ Hid (Ow w0 (fun _ => False) wr (LQ RA RB (Res.kins chK 4 (fun t => .slice (A5 t) (n5 t) (c5 t)) lq) (Res.blk pb 32 #[.int .u64 (f5 : Int), .slice (A5 0) (n5 0) (c5 0), .slice (A5 1) (n5 1) (c5 1), .slice (A5 2) (n5 2) (c5 2), .slice (A5 3) (n5 3) (c5 3), .bool (o5 0), .bool (o5 1), .bool (o5 2), .bool (o5 3)]) lb ob vs vs os ls))) (fun i _ => l.length - (intOf i).toNat)
  case atStart => exact ⟨0, by omega, rfl, S8⟩
  case round =>
    clear S8
    obtain ⟨j, hj, rfl, hs⟩ := hrel
    by_cases hlt : j < l.length
    · obtain ⟨x, hc⟩ : ∃ x, l[j]? = some x := ⟨_, List.getElem?_eq_getElem hlt⟩
      obtain ⟨Ap, cp, ep, hp⟩ := hs.out.loser (i := 2) rfl (t := 1) (by decide)
      rw [HLQ.out] at ep hp
      obtain ⟨bp, op, rfl, hp2⟩ := hp (by omega)
      obtain ⟨x0, x1, x2⟩ := hp2 j x hc
      injection ep with ep1 _ _
      have hrow := hs.out.rowsAt (i := 6) rfl (t := 1) (by decide)
      rw [HE.out, HLL.out] at hrow
      obtain ⟨gq, cq, eq, _⟩ := hrow.block (by omega)
      injection eq with eq1 _ _
      rw [eq1] at hrow
      have hq := fun (k : Nat) (u : Value) hu => hrow.cells hc k u hu
      have y1 : wr.cell? ⟨gq, j * 3, none⟩ = some (.int .i64 x.page) := hq 0 _ rfl
      have y2 : wr.cell? ⟨gq, j * 3 + 1, none⟩ = some (.int .i64 x.slot) := hq 1 _ rfl
      have y3 : wr.cell? ⟨gq, j * 3 + 2, none⟩ = some (.string x.before) := hq 2 _ rfl
      obtain ⟨p0, p1, p2, p3, p4, p5, p6, p7, p8⟩ := (hs.out.blk (i := 3) rfl).nine
      rw [HN5.out] at p2
      rw [HO5.out] at p6
      have z0 := (hs.out.blk (i := 4) rfl).cell 1 _ (cellsN_at vs (by decide))
      rw [HE.out] at z0
      have y0 := (hs.out.blk (i := 5) rfl).cell 1 _ (cellsN_at (fun t => Value.bool (os t)) (by decide))
      rw [HOS.out] at y0
      rw [ep1] at p2
      rw [eq1] at z0
      have q0 : (0 : Int) ≤ (j : Int) := by omega
      have q1 : (j : Int) < (l.length : Int) := by omega
      have ql : (l.length : Int) ≤ 1000 := by have := HL.out; omega
      have HLT := hide (show j < l.length from hlt)
      clear hlt hc hp hp2 ep1 eq1 hrow hq
      go_upto_region 39 with (fail)
      go_quiet (fail)
      go_wp2
      go_roundw
      case rel => exact ⟨j + 1, by have := HLT.out; omega, by go_num, hide (hs.out.below (below_drewN _ nq))⟩
      case measure => simp [intOf]; have := HLT.out; omega
    · obtain rfl : j = l.length := by omega
      clear hlt hj
      go_wp2
      exact HK.out _ _ _ _ _ _ _ _ _ _ _ _ _ _ _ _ _ _ _ _ _ _ _ _ _ _ _ _ _ _ _ _ _ _ _ _ _ _ _ _ _ _ _ _ _ hs.out
set_option maxHeartbeats 16000000 in
theorem pc2 {w0 w : World} {RA RB : Res} {pb lb ob f5 : Nat} {A5 : Nat → Option Addr} {n5 c5 : Nat → Nat} {o5 : Nat → Bool} {lq : Nat → List Ch} {vs : Nat → Value} {os : Nat → Bool} {ls : Nat → List Ch} {u0 u1 u2 u3 u5 u8 u9 u10 u11 u13 u14 u15 u16 u17 u18 u19 u20 u21 u22 u23 u24 u25 u26 u27 u28 u29 u30 u31 u32 u33 u34 u35 u36 u37 u38 u39 u40 u41 u42 u43 u44 u45 u46 u47 u48 u49 u50 u51 u52 u53 u54 u55 u56 u57 u58 u59 u60 u61 u62 u63 u64 u65 u66 u67 u68 u69 u70 u71 u72 u73 u74 u75 u76 u77 u78 u79 u80 u81 u82 u83 u84 u85 u86 u87 u88 u89 u90 u91 u92 u93 u94 u95 u96 u97 u98 u99 u100 u101 u102 u103 u104 u105 u106 u107 u108 u109 u110 u111 u112 u113 u114 u115 u116 u117 u118 u119 u120 u121 u122 u123 u124 u125 u126 u127 u128 u129 u130 u131 u132 u133 u134 u135 u136 u137 u138 u139 u140 u141 u142 u143 u144 u145 u146 u147 u148 u149 u150 u151 u152 u153 u154 u155 u156 u157 u158 u159 u160 u161 u162 u163 u164 u165 u166 u167 u168 u169 u170 u171 u172 u173 u174 u175 : Value} (h : Ow w0 (fun _ => False) w (LQ RA RB (Res.kins chK 4 (fun t => .slice (A5 t) (n5 t) (c5 t)) lq) (Res.blk pb 32 #[.int .u64 (f5 : Int), .slice (A5 0) (n5 0) (c5 0), .slice (A5 1) (n5 1) (c5 1), .slice (A5 2) (n5 2) (c5 2), .slice (A5 3) (n5 3) (c5 3), .bool (o5 0), .bool (o5 1), .bool (o5 2), .bool (o5 3)]) lb ob vs vs os ls)) (hn : n5 2 = (lq 2).length) (ho : o5 2 = os 2) (hlo : lq 2 = ls 2) (hl : (ls 2).length ≤ 1000) {Q : Exit → Act → World → Prop}
    (hK : ∀ (v2 v13 v117 v118 v119 v120 v121 v122 v123 v124 v125 v126 v127 v128 v129 v130 v131 v132 v133 v134 v135 v136 v137 v138 v139 v140 v141 v142 v143 v144 v145 v146 v147 v148 v149 v150 v151 v152 v153 v154 v155 v156 v157 v158 : Value) (w' : World), Ow w0 (fun _ => False) w' (LQ RA RB (Res.kins chK 4 (fun t => .slice (A5 t) (n5 t) (c5 t)) lq) (Res.blk pb 32 #[.int .u64 (f5 : Int), .slice (A5 0) (n5 0) (c5 0), .slice (A5 1) (n5 1) (c5 1), .slice (A5 2) (n5 2) (c5 2), .slice (A5 3) (n5 3) (c5 3), .bool (o5 0), .bool (o5 1), .bool (o5 2), .bool (o5 3)]) lb ob vs vs os ls) → Q .normal ⟨#[u0, u1, v2, u3, .pointer (some ⟨pb, 0, none⟩), u5, .pointer (some ⟨lb, 0, none⟩), .pointer (some ⟨ob, 0, none⟩), u8, u9, u10, u11, .int .i64 2, v13, u14, u15, u16, u17, u18, u19, u20, u21, u22, u23, u24, u25, u26, u27, u28, u29, u30, u31, u32, u33, u34, u35, u36, u37, u38, u39, u40, u41, u42, u43, u44, u45, u46, u47, u48, u49, u50, u51, u52, u53, u54, u55, u56, u57, u58, u59, u60, u61, u62, u63, u64, u65, u66, u67, u68, u69, u70, u71, u72, u73, u74, u75, u76, u77, u78, u79, u80, u81, u82, u83, u84, u85, u86, u87, u88, u89, u90, u91, u92, u93, u94, u95, u96, u97, u98, u99, u100, u101, u102, u103, u104, u105, u106, u107, u108, u109, u110, u111, u112, u113, u114, u115, u116, v117, v118, v119, v120, v121, v122, v123, v124, v125, v126, v127, v128, v129, v130, v131, v132, v133, v134, v135, v136, v137, v138, v139, v140, v141, v142, v143, v144, v145, v146, v147, v148, v149, v150, v151, v152, v153, v154, v155, v156, v157, v158, u159, u160, u161, u162, u163, u164, u165, u166, u167, u168, u169, u170, u171, u172, u173, u174, u175], []⟩ w') :
    Code.wp Try.prog (subC (Try.f3.body.getD .skip) [1,1,1,1,1,1,1,1,1,0,1,0,0,1,0]) Q ⟨#[u0, u1, u2, u3, .pointer (some ⟨pb, 0, none⟩), u5, .pointer (some ⟨lb, 0, none⟩), .pointer (some ⟨ob, 0, none⟩), u8, u9, u10, u11, .int .i64 2, u13, u14, u15, u16, u17, u18, u19, u20, u21, u22, u23, u24, u25, u26, u27, u28, u29, u30, u31, u32, u33, u34, u35, u36, u37, u38, u39, u40, u41, u42, u43, u44, u45, u46, u47, u48, u49, u50, u51, u52, u53, u54, u55, u56, u57, u58, u59, u60, u61, u62, u63, u64, u65, u66, u67, u68, u69, u70, u71, u72, u73, u74, u75, u76, u77, u78, u79, u80, u81, u82, u83, u84, u85, u86, u87, u88, u89, u90, u91, u92, u93, u94, u95, u96, u97, u98, u99, u100, u101, u102, u103, u104, u105, u106, u107, u108, u109, u110, u111, u112, u113, u114, u115, u116, u117, u118, u119, u120, u121, u122, u123, u124, u125, u126, u127, u128, u129, u130, u131, u132, u133, u134, u135, u136, u137, u138, u139, u140, u141, u142, u143, u144, u145, u146, u147, u148, u149, u150, u151, u152, u153, u154, u155, u156, u157, u158, u159, u160, u161, u162, u163, u164, u165, u166, u167, u168, u169, u170, u171, u172, u173, u174, u175], []⟩ w := by
  conv => arg 2; whnf
  have HK := hide hK
  clear hK
  obtain ⟨A, c, e⟩ := (h.rowsAt (i := 6) rfl (t := 2) (by decide)).form
  obtain ⟨l, hll⟩ : ∃ l, ls 2 = l := ⟨_, rfl⟩
  obtain ⟨bo, hbo⟩ : ∃ bo, os 2 = bo := ⟨_, rfl⟩
  rw [hll] at e hl hlo
  rw [hlo] at hn
  rw [hbo] at ho
  have HE := hide e
  have HN5 := hide hn
  have HO5 := hide ho
  have HOS := hide hbo
  have HLL := hide hll
  have HLQ := hide hlo
  have HL := hide hl
  have H := hide h
  have hbx : (bo != bo) = false := by cases bo <;> rfl
  have hbx2 : decide (l.length ≠ l.length) = false := by simp
  clear h e hn ho hbo hll hlo hl
  obtain ⟨p0, p1, p2, p3, p4, p5, p6, p7, p8⟩ := (H.out.blk (i := 3) rfl).nine
  rw [HN5.out] at p3
  rw [HO5.out] at p7
  have z0 := (H.out.blk (i := 4) rfl).cell 2 _ (cellsN_at vs (by decide))
  rw [HE.out] at z0
  have y0 := (H.out.blk (i := 5) rfl).cell 2 _ (cellsN_at (fun t => Value.bool (os t)) (by decide))
  rw [HOS.out] at y0
  go_upto_region 34 with (fail)
  go_quiet (fail)
  have S8 := hide (H.out.below (below_drewN _ nq))
  clear p0 p1 p2 p3 p4 p5 p6 p7 p8 z0 y0
  obtain ⟨p0, p1, p2, p3, p4, p5, p6, p7, p8⟩ := (S8.out.blk (i := 3) rfl).nine
  rw [HN5.out] at p3
  rw [HO5.out] at p7
  have z0 := (S8.out.blk (i := 4) rfl).cell 2 _ (cellsN_at vs (by decide))
  rw [HE.out] at z0
  have y0 := (S8.out.blk (i := 5) rfl).cell 2 _ (cellsN_at (fun t => Value.bool (os t)) (by decide))
  rw [HOS.out] at y0
  clear H
  go_wp2
  clear p0 p1 p2 p3 p4 p5 p6 p7 p8 z0 y0
  go_loopw [141] (fun i wr => ∃ j : Nat, j ≤ l.length ∧ i = .int .i64 j ∧ Hid (Ow w0 (fun _ => False) wr (LQ RA RB (Res.kins chK 4 (fun t => .slice (A5 t) (n5 t) (c5 t)) lq) (Res.blk pb 32 #[.int .u64 (f5 : Int), .slice (A5 0) (n5 0) (c5 0), .slice (A5 1) (n5 1) (c5 1), .slice (A5 2) (n5 2) (c5 2), .slice (A5 3) (n5 3) (c5 3), .bool (o5 0), .bool (o5 1), .bool (o5 2), .bool (o5 3)]) lb ob vs vs os ls))) (fun i _ => l.length - (intOf i).toNat)
  case atStart => exact ⟨0, by omega, rfl, S8⟩
  case round =>
    clear S8
    obtain ⟨j, hj, rfl, hs⟩ := hrel
    by_cases hlt : j < l.length
    · obtain ⟨x, hc⟩ : ∃ x, l[j]? = some x := ⟨_, List.getElem?_eq_getElem hlt⟩
      obtain ⟨Ap, cp, ep, hp⟩ := hs.out.loser (i := 2) rfl (t := 2) (by decide)
      rw [HLQ.out] at ep hp
      obtain ⟨bp, op, rfl, hp2⟩ := hp (by omega)
      obtain ⟨x0, x1, x2⟩ := hp2 j x hc
      injection ep with ep1 _ _
      have hrow := hs.out.rowsAt (i := 6) rfl (t := 2) (by decide)
      rw [HE.out, HLL.out] at hrow
      obtain ⟨gq, cq, eq, _⟩ := hrow.block (by omega)
      injection eq with eq1 _ _
      rw [eq1] at hrow
      have hq := fun (k : Nat) (u : Value) hu => hrow.cells hc k u hu
      have y1 : wr.cell? ⟨gq, j * 3, none⟩ = some (.int .i64 x.page) := hq 0 _ rfl
      have y2 : wr.cell? ⟨gq, j * 3 + 1, none⟩ = some (.int .i64 x.slot) := hq 1 _ rfl
      have y3 : wr.cell? ⟨gq, j * 3 + 2, none⟩ = some (.string x.before) := hq 2 _ rfl
      obtain ⟨p0, p1, p2, p3, p4, p5, p6, p7, p8⟩ := (hs.out.blk (i := 3) rfl).nine
      rw [HN5.out] at p3
      rw [HO5.out] at p7
      have z0 := (hs.out.blk (i := 4) rfl).cell 2 _ (cellsN_at vs (by decide))
      rw [HE.out] at z0
      have y0 := (hs.out.blk (i := 5) rfl).cell 2 _ (cellsN_at (fun t => Value.bool (os t)) (by decide))
      rw [HOS.out] at y0
      rw [ep1] at p3
      rw [eq1] at z0
      have q0 : (0 : Int) ≤ (j : Int) := by omega
      have q1 : (j : Int) < (l.length : Int) := by omega
      have ql : (l.length : Int) ≤ 1000 := by have := HL.out; omega
      have HLT := hide (show j < l.length from hlt)
      clear hlt hc hp hp2 ep1 eq1 hrow hq
      go_upto_region 39 with (fail)
      go_quiet (fail)
      go_wp2
      go_roundw
      case rel => exact ⟨j + 1, by have := HLT.out; omega, by go_num, hide (hs.out.below (below_drewN _ nq))⟩
      case measure => simp [intOf]; have := HLT.out; omega
    · obtain rfl : j = l.length := by omega
      clear hlt hj
      go_wp2
      exact HK.out _ _ _ _ _ _ _ _ _ _ _ _ _ _ _ _ _ _ _ _ _ _ _ _ _ _ _ _ _ _ _ _ _ _ _ _ _ _ _ _ _ _ _ _ _ hs.out
set_option maxHeartbeats 16000000 in
theorem pc3 {w0 w : World} {RA RB : Res} {pb lb ob f5 : Nat} {A5 : Nat → Option Addr} {n5 c5 : Nat → Nat} {o5 : Nat → Bool} {lq : Nat → List Ch} {vs : Nat → Value} {os : Nat → Bool} {ls : Nat → List Ch} {u0 u1 u2 u3 u5 u8 u9 u10 u11 u13 u14 u15 u16 u17 u18 u19 u20 u21 u22 u23 u24 u25 u26 u27 u28 u29 u30 u31 u32 u33 u34 u35 u36 u37 u38 u39 u40 u41 u42 u43 u44 u45 u46 u47 u48 u49 u50 u51 u52 u53 u54 u55 u56 u57 u58 u59 u60 u61 u62 u63 u64 u65 u66 u67 u68 u69 u70 u71 u72 u73 u74 u75 u76 u77 u78 u79 u80 u81 u82 u83 u84 u85 u86 u87 u88 u89 u90 u91 u92 u93 u94 u95 u96 u97 u98 u99 u100 u101 u102 u103 u104 u105 u106 u107 u108 u109 u110 u111 u112 u113 u114 u115 u116 u117 u118 u119 u120 u121 u122 u123 u124 u125 u126 u127 u128 u129 u130 u131 u132 u133 u134 u135 u136 u137 u138 u139 u140 u141 u142 u143 u144 u145 u146 u147 u148 u149 u150 u151 u152 u153 u154 u155 u156 u157 u158 u159 u160 u161 u162 u163 u164 u165 u166 u167 u168 u169 u170 u171 u172 u173 u174 u175 : Value} (h : Ow w0 (fun _ => False) w (LQ RA RB (Res.kins chK 4 (fun t => .slice (A5 t) (n5 t) (c5 t)) lq) (Res.blk pb 32 #[.int .u64 (f5 : Int), .slice (A5 0) (n5 0) (c5 0), .slice (A5 1) (n5 1) (c5 1), .slice (A5 2) (n5 2) (c5 2), .slice (A5 3) (n5 3) (c5 3), .bool (o5 0), .bool (o5 1), .bool (o5 2), .bool (o5 3)]) lb ob vs vs os ls)) (hn : n5 3 = (lq 3).length) (ho : o5 3 = os 3) (hlo : lq 3 = ls 3) (hl : (ls 3).length ≤ 1000) {Q : Exit → Act → World → Prop}
    (hK : ∀ (v2 v13 v117 v118 v119 v120 v121 v122 v123 v124 v125 v126 v127 v128 v129 v130 v131 v132 v133 v134 v135 v136 v137 v138 v139 v140 v141 v142 v143 v144 v145 v146 v147 v148 v149 v150 v151 v152 v153 v154 v155 v156 v157 v158 : Value) (w' : World), Ow w0 (fun _ => False) w' (LQ RA RB (Res.kins chK 4 (fun t => .slice (A5 t) (n5 t) (c5 t)) lq) (Res.blk pb 32 #[.int .u64 (f5 : Int), .slice (A5 0) (n5 0) (c5 0), .slice (A5 1) (n5 1) (c5 1), .slice (A5 2) (n5 2) (c5 2), .slice (A5 3) (n5 3) (c5 3), .bool (o5 0), .bool (o5 1), .bool (o5 2), .bool (o5 3)]) lb ob vs vs os ls) → Q .normal ⟨#[u0, u1, v2, u3, .pointer (some ⟨pb, 0, none⟩), u5, .pointer (some ⟨lb, 0, none⟩), .pointer (some ⟨ob, 0, none⟩), u8, u9, u10, u11, .int .i64 3, v13, u14, u15, u16, u17, u18, u19, u20, u21, u22, u23, u24, u25, u26, u27, u28, u29, u30, u31, u32, u33, u34, u35, u36, u37, u38, u39, u40, u41, u42, u43, u44, u45, u46, u47, u48, u49, u50, u51, u52, u53, u54, u55, u56, u57, u58, u59, u60, u61, u62, u63, u64, u65, u66, u67, u68, u69, u70, u71, u72, u73, u74, u75, u76, u77, u78, u79, u80, u81, u82, u83, u84, u85, u86, u87, u88, u89, u90, u91, u92, u93, u94, u95, u96, u97, u98, u99, u100, u101, u102, u103, u104, u105, u106, u107, u108, u109, u110, u111, u112, u113, u114, u115, u116, v117, v118, v119, v120, v121, v122, v123, v124, v125, v126, v127, v128, v129, v130, v131, v132, v133, v134, v135, v136, v137, v138, v139, v140, v141, v142, v143, v144, v145, v146, v147, v148, v149, v150, v151, v152, v153, v154, v155, v156, v157, v158, u159, u160, u161, u162, u163, u164, u165, u166, u167, u168, u169, u170, u171, u172, u173, u174, u175], []⟩ w') :
    Code.wp Try.prog (subC (Try.f3.body.getD .skip) [1,1,1,1,1,1,1,1,1,0,1,0,0,1,0]) Q ⟨#[u0, u1, u2, u3, .pointer (some ⟨pb, 0, none⟩), u5, .pointer (some ⟨lb, 0, none⟩), .pointer (some ⟨ob, 0, none⟩), u8, u9, u10, u11, .int .i64 3, u13, u14, u15, u16, u17, u18, u19, u20, u21, u22, u23, u24, u25, u26, u27, u28, u29, u30, u31, u32, u33, u34, u35, u36, u37, u38, u39, u40, u41, u42, u43, u44, u45, u46, u47, u48, u49, u50, u51, u52, u53, u54, u55, u56, u57, u58, u59, u60, u61, u62, u63, u64, u65, u66, u67, u68, u69, u70, u71, u72, u73, u74, u75, u76, u77, u78, u79, u80, u81, u82, u83, u84, u85, u86, u87, u88, u89, u90, u91, u92, u93, u94, u95, u96, u97, u98, u99, u100, u101, u102, u103, u104, u105, u106, u107, u108, u109, u110, u111, u112, u113, u114, u115, u116, u117, u118, u119, u120, u121, u122, u123, u124, u125, u126, u127, u128, u129, u130, u131, u132, u133, u134, u135, u136, u137, u138, u139, u140, u141, u142, u143, u144, u145, u146, u147, u148, u149, u150, u151, u152, u153, u154, u155, u156, u157, u158, u159, u160, u161, u162, u163, u164, u165, u166, u167, u168, u169, u170, u171, u172, u173, u174, u175], []⟩ w := by
  conv => arg 2; whnf
  have HK := hide hK
  clear hK
  obtain ⟨A, c, e⟩ := (h.rowsAt (i := 6) rfl (t := 3) (by decide)).form
  obtain ⟨l, hll⟩ : ∃ l, ls 3 = l := ⟨_, rfl⟩
  obtain ⟨bo, hbo⟩ : ∃ bo, os 3 = bo := ⟨_, rfl⟩
  rw [hll] at e hl hlo
  rw [hlo] at hn
  rw [hbo] at ho
  have HE := hide e
  have HN5 := hide hn
  have HO5 := hide ho
  have HOS := hide hbo
  have HLL := hide hll
  have HLQ := hide hlo
  have HL := hide hl
  have H := hide h
  have hbx : (bo != bo) = false := by cases bo <;> rfl
  have hbx2 : decide (l.length ≠ l.length) = false := by simp
  clear h e hn ho hbo hll hlo hl
  obtain ⟨p0, p1, p2, p3, p4, p5, p6, p7, p8⟩ := (H.out.blk (i := 3) rfl).nine
  rw [HN5.out] at p4
  rw [HO5.out] at p8
  have z0 := (H.out.blk (i := 4) rfl).cell 3 _ (cellsN_at vs (by decide))
  rw [HE.out] at z0
  have y0 := (H.out.blk (i := 5) rfl).cell 3 _ (cellsN_at (fun t => Value.bool (os t)) (by decide))
  rw [HOS.out] at y0
  go_upto_region 34 with (fail)
  go_quiet (fail)
  have S8 := hide (H.out.below (below_drewN _ nq))
  clear p0 p1 p2 p3 p4 p5 p6 p7 p8 z0 y0
  obtain ⟨p0, p1, p2, p3, p4, p5, p6, p7, p8⟩ := (S8.out.blk (i := 3) rfl).nine
  rw [HN5.out] at p4
  rw [HO5.out] at p8
  have z0 := (S8.out.blk (i := 4) rfl).cell 3 _ (cellsN_at vs (by decide))
  rw [HE.out] at z0
  have y0 := (S8.out.blk (i := 5) rfl).cell 3 _ (cellsN_at (fun t => Value.bool (os t)) (by decide))
  rw [HOS.out] at y0
  clear H
  go_wp2
  clear p0 p1 p2 p3 p4 p5 p6 p7 p8 z0 y0
  go_loopw [141] (fun i wr => ∃ j : Nat, j ≤ l.length ∧ i = .int .i64 j ∧ Hid (Ow w0 (fun _ => False) wr (LQ RA RB (Res.kins chK 4 (fun t => .slice (A5 t) (n5 t) (c5 t)) lq) (Res.blk pb 32 #[.int .u64 (f5 : Int), .slice (A5 0) (n5 0) (c5 0), .slice (A5 1) (n5 1) (c5 1), .slice (A5 2) (n5 2) (c5 2), .slice (A5 3) (n5 3) (c5 3), .bool (o5 0), .bool (o5 1), .bool (o5 2), .bool (o5 3)]) lb ob vs vs os ls))) (fun i _ => l.length - (intOf i).toNat)
  case atStart => exact ⟨0, by omega, rfl, S8⟩
  case round =>
    clear S8
    obtain ⟨j, hj, rfl, hs⟩ := hrel
    by_cases hlt : j < l.length
    · obtain ⟨x, hc⟩ : ∃ x, l[j]? = some x := ⟨_, List.getElem?_eq_getElem hlt⟩
      obtain ⟨Ap, cp, ep, hp⟩ := hs.out.loser (i := 2) rfl (t := 3) (by decide)
      rw [HLQ.out] at ep hp
      obtain ⟨bp, op, rfl, hp2⟩ := hp (by omega)
      obtain ⟨x0, x1, x2⟩ := hp2 j x hc
      injection ep with ep1 _ _
      have hrow := hs.out.rowsAt (i := 6) rfl (t := 3) (by decide)
      rw [HE.out, HLL.out] at hrow
      obtain ⟨gq, cq, eq, _⟩ := hrow.block (by omega)
      injection eq with eq1 _ _
      rw [eq1] at hrow
      have hq := fun (k : Nat) (u : Value) hu => hrow.cells hc k u hu
      have y1 : wr.cell? ⟨gq, j * 3, none⟩ = some (.int .i64 x.page) := hq 0 _ rfl
      have y2 : wr.cell? ⟨gq, j * 3 + 1, none⟩ = some (.int .i64 x.slot) := hq 1 _ rfl
      have y3 : wr.cell? ⟨gq, j * 3 + 2, none⟩ = some (.string x.before) := hq 2 _ rfl
      obtain ⟨p0, p1, p2, p3, p4, p5, p6, p7, p8⟩ := (hs.out.blk (i := 3) rfl).nine
      rw [HN5.out] at p4
      rw [HO5.out] at p8
      have z0 := (hs.out.blk (i := 4) rfl).cell 3 _ (cellsN_at vs (by decide))
      rw [HE.out] at z0
      have y0 := (hs.out.blk (i := 5) rfl).cell 3 _ (cellsN_at (fun t => Value.bool (os t)) (by decide))
      rw [HOS.out] at y0
      rw [ep1] at p4
      rw [eq1] at z0
      have q0 : (0 : Int) ≤ (j : Int) := by omega
      have q1 : (j : Int) < (l.length : Int) := by omega
      have ql : (l.length : Int) ≤ 1000 := by have := HL.out; omega
      have HLT := hide (show j < l.length from hlt)
      clear hlt hc hp hp2 ep1 eq1 hrow hq
      go_upto_region 39 with (fail)
      go_quiet (fail)
      go_wp2
      go_roundw
      case rel => exact ⟨j + 1, by have := HLT.out; omega, by go_num, hide (hs.out.below (below_drewN _ nq))⟩
      case measure => simp [intOf]; have := HLT.out; omega
    · obtain rfl : j = l.length := by omega
      clear hlt hj
      go_wp2
      exact HK.out _ _ _ _ _ _ _ _ _ _ _ _ _ _ _ _ _ _ _ _ _ _ _ _ _ _ _ _ _ _ _ _ _ _ _ _ _ _ _ _ _ _ _ _ _ hs.out
set_option maxHeartbeats 4000000 in
theorem pl_all {w0 w : World} {RA RB RC RD : Res} {lb ob eb f : Nat} {vs : Nat → Value} {os : Nat → Bool} {ls : Nat → List Ch} {x : Ei} {u0 u1 u2 u3 u4 u8 u10 u11 u12 u13 u14 u15 u16 u17 u18 u19 u20 u21 u22 u23 u24 u25 u26 u27 u28 u29 u30 u32 u33 u34 u35 u36 u37 u38 u39 u40 u41 u42 u43 u44 u45 u46 u47 u48 u49 u50 u51 u52 u53 u54 u55 u56 u57 u58 u59 u60 u61 u62 u63 u64 u65 u66 u67 u68 u69 u70 u71 u72 u73 u74 u75 u76 u77 u78 u79 u80 u81 u82 u83 u84 u85 u86 u87 u88 u89 u90 u91 u92 u93 u94 u95 u96 u97 u98 u99 u100 u101 u102 u103 u104 u105 u106 u107 u108 u109 u110 u111 u112 u113 u114 u115 u116 u117 u118 u119 u120 u121 u122 u123 u124 u125 u126 u127 u128 u129 u130 u131 u132 u133 u134 u135 u136 u137 u138 u139 u140 u141 u142 u143 u144 u145 u146 u147 u148 u149 u150 u151 u152 u153 u154 u155 u156 u157 u158 u159 u160 u161 u162 u163 u164 u165 u166 u167 u168 u169 u170 u171 u172 u173 u174 u175 : Value} (h : Ow w0 (fun _ => False) w (LQ RA RB RC RD lb ob vs vs os ls ++ [Res.blk eb 40 #[.int .i64 (x.r.k : Int), .int .i64 (x.r.t : Int), .int .i64 (x.r.p : Int), .int .i64 (x.r.s : Int), .string x.r.b, .string x.r.a, .string x.r.i, .slice x.A x.r.ds.length x.c, .int .u64 (x.pl : Int)]])) (ht : x.r.t < 8) (hl : (ls x.r.t).length ≤ 1000) (hk : 1 ≤ x.r.k ∧ x.r.k ≤ 7) (hd : DOk w x) {Q : Exit → Act → World → Prop}
    (hK : ∀ (v11 v32 v33 v34 v35 v36 v37 v38 v39 v40 v41 v42 v43 v44 v45 v46 v47 v48 v49 v50 v51 v52 v53 v54 v55 v56 v57 v58 v59 v60 v61 v62 v63 v64 v65 v66 v67 v68 v69 v70 v71 v72 v73 v74 v75 v76 v77 v78 v79 v80 v81 v82 v83 v84 v85 v86 v87 v88 v89 v90 v91 v92 v93 v94 v95 v96 v97 v98 v99 v100 v101 v102 v103 v104 v105 v106 v107 v108 v109 v110 v111 : Value) (w' : World) (vs' : Nat → Value), Ow w0 (fun _ => False) w' (LQ RA RB RC RD lb ob vs' vs' (setN os x.r.t (opS x.r.t (os x.r.t) x.r)) (setN ls x.r.t (loS x.r.t (ls x.r.t) x.r)) ++ [Res.blk eb 40 #[.int .i64 (x.r.k : Int), .int .i64 (x.r.t : Int), .int .i64 (x.r.p : Int), .int .i64 (x.r.s : Int), .string x.r.b, .string x.r.a, .string x.r.i, .slice x.A x.r.ds.length x.c, .int .u64 (x.pl : Int)]]) → Q .normal ⟨#[u0, u1, u2, u3, u4, .int .u64 (frS f x : Int), .pointer (some ⟨lb, 0, none⟩), .pointer (some ⟨ob, 0, none⟩), u8, .pointer (some ⟨eb, 0, none⟩), u10, v11, u12, u13, u14, u15, u16, u17, u18, u19, u20, u21, u22, u23, u24, u25, u26, u27, u28, u29, u30, .int .i64 (x.r.k : Int), v32, v33, v34, v35, v36, v37, v38, v39, v40, v41, v42, v43, v44, v45, v46, v47, v48, v49, v50, v51, v52, v53, v54, v55, v56, v57, v58, v59, v60, v61, v62, v63, v64, v65, v66, v67, v68, v69, v70, v71, v72, v73, v74, v75, v76, v77, v78, v79, v80, v81, v82, v83, v84, v85, v86, v87, v88, v89, v90, v91, v92, v93, v94, v95, v96, v97, v98, v99, v100, v101, v102, v103, v104, v105, v106, v107, v108, v109, v110, v111, u112, u113, u114, u115, u116, u117, u118, u119, u120, u121, u122, u123, u124, u125, u126, u127, u128, u129, u130, u131, u132, u133, u134, u135, u136, u137, u138, u139, u140, u141, u142, u143, u144, u145, u146, u147, u148, u149, u150, u151, u152, u153, u154, u155, u156, u157, u158, u159, u160, u161, u162, u163, u164, u165, u166, u167, u168, u169, u170, u171, u172, u173, u174, u175], []⟩ w') :
    Code.wp Try.prog (subC (Try.f3.body.getD .skip) [1,1,1,1,1,1,1,1,0,1,0,0,1,1,0,0,1,1]) Q ⟨#[u0, u1, u2, u3, u4, .int .u64 (f : Int), .pointer (some ⟨lb, 0, none⟩), .pointer (some ⟨ob, 0, none⟩), u8, .pointer (some ⟨eb, 0, none⟩), u10, u11, u12, u13, u14, u15, u16, u17, u18, u19, u20, u21, u22, u23, u24, u25, u26, u27, u28, u29, u30, .int .i64 (x.r.k : Int), u32, u33, u34, u35, u36, u37, u38, u39, u40, u41, u42, u43, u44, u45, u46, u47, u48, u49, u50, u51, u52, u53, u54, u55, u56, u57, u58, u59, u60, u61, u62, u63, u64, u65, u66, u67, u68, u69, u70, u71, u72, u73, u74, u75, u76, u77, u78, u79, u80, u81, u82, u83, u84, u85, u86, u87, u88, u89, u90, u91, u92, u93, u94, u95, u96, u97, u98, u99, u100, u101, u102, u103, u104, u105, u106, u107, u108, u109, u110, u111, u112, u113, u114, u115, u116, u117, u118, u119, u120, u121, u122, u123, u124, u125, u126, u127, u128, u129, u130, u131, u132, u133, u134, u135, u136, u137, u138, u139, u140, u141, u142, u143, u144, u145, u146, u147, u148, u149, u150, u151, u152, u153, u154, u155, u156, u157, u158, u159, u160, u161, u162, u163, u164, u165, u166, u167, u168, u169, u170, u171, u172, u173, u174, u175], []⟩ w := by
  obtain hk | hk | hk | hk | hk | hk | hk : x.r.k = 1 ∨ x.r.k = 2 ∨ x.r.k = 3 ∨ x.r.k = 4 ∨ x.r.k = 5 ∨ x.r.k = 6 ∨ x.r.k = 7 := by omega
  · rw [(loS_none (l := ls x.r.t) rfl (.inl hk)).1, (loS_none (l := ls x.r.t) rfl (.inl hk)).2, show frS f x = f from if_neg (by omega)] at hK
    rw [setN_same, setN_same] at hK
    exact pl1 h ht hl hk hK
  · rw [(loS_add (l := ls x.r.t) rfl (.inl hk)).1, (loS_add (l := ls x.r.t) rfl (.inl hk)).2, show frS f x = f from if_neg (by omega)] at hK
    exact pl2 h ht hl hk hK
  · rw [(loS_add (l := ls x.r.t) rfl (.inr hk)).1, (loS_add (l := ls x.r.t) rfl (.inr hk)).2, show frS f x = f from if_neg (by omega)] at hK
    exact pl3 h ht hl hk hK
  · rw [(loS_cut (l := ls x.r.t) rfl hk).1, (loS_cut (l := ls x.r.t) rfl hk).2, show frS f x = f from if_neg (by omega)] at hK
    rw [setN_same] at hK
    exact pl4 h ht hl hk hK
  · rw [(loS_end (l := ls x.r.t) rfl (.inl hk)).1, (loS_end (l := ls x.r.t) rfl (.inl hk)).2, show frS f x = f from if_neg (by omega)] at hK
    exact pl5 h ht hl hk hK
  · rw [(loS_end (l := ls x.r.t) rfl (.inr hk)).1, (loS_end (l := ls x.r.t) rfl (.inr hk)).2, show frS f x = f from if_neg (by omega)] at hK
    exact pl6 h ht hl hk hK
  · rw [(loS_none (l := ls x.r.t) rfl (.inr hk)).1, (loS_none (l := ls x.r.t) rfl (.inr hk)).2, show frS f x = markN x.r.ds x.pl from if_pos hk] at hK
    rw [setN_same, setN_same] at hK
    exact pl7 h ht hl hk hd hK
end Go.Proofs.Ytoifghofkjomnaa
