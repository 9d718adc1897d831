/-
  Contract of Kept.
-/
import Derived.Test.YtkegfedbffhnfaaRowO
namespace Go.Proofs.Ytkegfedbffhnfaa
open Go.RowKit Go.Shelf
set_option maxRecDepth 20000
set_option linter.unusedSimpArgs false
set_option linter.unusedVariables false
attribute [local go_sem] Oper.semAt_some

/-- Must its slot be filled again? -/
def keepB (p : Int) (c : Ch) : Bool := decide (c.page = p) && !decide (c.before = ⟨#[]⟩)
def keepL (p : Int) (l : List Ch) : List Int := (l.filter (keepB p)).map Ch.slot
def keepO (p : Int) : Option (Nat × Tx) → List Int
  | none => []
  | some (_, t) => keepL p t.l
def keptT (T : Tb) (p : Int) : Nat → List Int
  | 0 => []
  | k + 1 => keptT T p k ++ keepO p (T k)
theorem keptT_none {T : Tb} {p : Int} {k : Nat} (h : T k = none) : keptT T p (k + 1) = keptT T p k := by
  show keptT T p k ++ keepO p (T k) = _
  rw [h]
  exact List.append_nil _
theorem keptT_some {T : Tb} {p : Int} {k x : Nat} {t : Tx} (h : T k = some (x, t)) : keptT T p (k + 1) = keptT T p k ++ keepL p t.l := by
  show keptT T p k ++ keepO p (T k) = _
  rw [h]
  rfl
theorem keepL_length (p : Int) (l : List Ch) : (keepL p l).length ≤ l.length := by
  unfold keepL
  rw [List.length_map]
  exact List.length_filter_le _ _
theorem keptT_le {T : Tb} {p : Int} (hl : ∀ i x t, T i = some (x, t) → t.l.length ≤ 1000) : ∀ k, (keptT T p k).length ≤ k * 1000
  | 0 => Nat.le_refl _
  | k + 1 => by
    have := keptT_le (p := p) hl k
    have h2 : (keepO p (T k)).length ≤ 1000 := by
      cases h : T k with
      | none => exact Nat.zero_le _
      | some z => exact Nat.le_trans (keepL_length _ _) (hl k z.1 z.2 h)
    show (keptT T p k ++ keepO p (T k)).length ≤ _
    rw [List.length_append]
    omega
theorem keepL_take {p : Int} {l : List Ch} {j : Nat} {c : Ch} (h : l[j]? = some c) : keepL p (l.take (j + 1)) = keepL p (l.take j) ++ (if keepB p c then [c.slot] else []) := by
  unfold keepL
  rw [List.take_add_one, h, List.filter_append, List.map_append]
  congr 1
  cases hb : keepB p c <;> simp [hb]
theorem keepB_no1 {p : Int} {c : Ch} (h : ¬ c.page = p) : keepB p c = false := by simp [keepB, h]
theorem keepB_no2 {p : Int} {c : Ch} (h : c.before = ⟨#[]⟩) : keepB p c = false := by simp [keepB, h]
theorem keepB_yes {p : Int} {c : Ch} (h : c.page = p) (h2 : ¬ c.before = ⟨#[]⟩) : keepB p c = true := by simp [keepB, h, h2]
theorem keepL_no {p : Int} {l : List Ch} {j : Nat} {c : Ch} (h : l[j]? = some c) (hb : keepB p c = false) : keepL p (l.take (j + 1)) = keepL p (l.take j) := by
  rw [keepL_take h, hb]
  exact List.append_nil _
theorem keepL_yes {p : Int} {l : List Ch} {j : Nat} {c : Ch} (h : l[j]? = some c) (hb : keepB p c = true) : keepL p (l.take (j + 1)) = keepL p (l.take j) ++ [c.slot] := by
  rw [keepL_take h, hb]
  rfl
set_option maxHeartbeats 8000000 in
theorem kept_any {w : World} {g : Nat} {T : Tb} {O : Nat → Prop} (h : Tab layT 27 w g T O) (hl : ∀ i x t, T i = some (x, t) → t.l.length ≤ 1000) (p : Int) :
    Calls Try.prog 20 #[.pointer (some ⟨g, 0, none⟩), .int .i64 p] w fun e w' => ∃ v, e = .returned v ∧ intsK.Row w' v (keptT T p 4) ∧ Below w.heap.size w w' ∧ ∀ k, v.ownBlock = some k → w.heap.size ≤ k := by
  have HH := hide h
  have HL := hide hl
  have S0 : Hid (Ow w (fun _ => False) ((w.alloc (.cells #[.int .i64 p] 3)).alloc (.cells #[.slice none 0 0] 36)) [Res.blk w.heap.size 3 #[.int .i64 p], Res.blk (w.heap.size + 1) 36 #[(.slice none 0 0)], Res.row intsK (.slice none 0 0) (keptT T p 0)]) := hide (by
    have h := (((Ow.start w).box 3 #[.int .i64 p]).box 36 #[.slice none 0 0]).newrow intsK
    rw [World.size_alloc] at h
    exact h)
  have hgl := h.blk.lt
  have HGL := hide hgl
  clear h hgl hl
  refine (callsIn_wide (n := 4)).1 ?_
  refine callsIn_of_wp_marks Try.func20 rfl trivial ?_ rfl
  refine wpIn_wide.2 ?_
  simp only [Try.ntmps20, List.size_toArray, List.length_cons, List.length_nil, Nat.reduceAdd, Nat.reduceSub, Array.replicate_succ, Array.replicate_zero, List.push_toArray, List.append_toArray, List.nil_append, List.cons_append]
  go_wp2
  generalize ((w.alloc (.cells #[.int .i64 p] 3)).alloc (.cells #[.slice none 0 0] 36)) = w5 at *
  obtain ⟨F, hF⟩ := S0.out
  have hwD := hF.kept.size
  refine wpIn_wide.1 (range_T (n := 4) (by omega) rfl rfl (HH.out.blk.below S0.out.bel) HH.out.zero HH.out.top (fun q F A => ∃ v, OwF w (fun _ => False) F A [Res.blk w.heap.size 3 #[.int .i64 p], Res.blk (w.heap.size + 1) 36 #[v], Res.row intsK v (keptT T p q)]) (fun _ _ _ => False)
    (fun q F A B h e1 e2 hc => let ⟨v, h⟩ := h; ⟨v, h.calm hc e1 e2 hwD⟩) (fun _ _ _ _ h _ => h) ⟨F, ⟨_, hF⟩, hF.lt, fun hg => ?fg⟩ (fun q F A _ hT h => by rw [keptT_none hT]; exact h) ?round ?done ?stop)
  case fg =>
    rcases hF.new g hg with h | h
    · exact h
    · have := HGL.out
      omega
  case round =>
    clear hF S0
    rintro q F x t A hk hT ⟨v0, hA⟩ e1 e2 hlA
    have HA := hide hA
    have E1 := hide e1
    have E2 := hide e2
    have HLA := hide hlA
    have HTQ := hide hT
    have HML : Hid ((keptT T p q).length ≤ 4000) := hide (by have := keptT_le (p := p) HL.out q; omega)
    have HTL : Hid (t.l.length ≤ 1000) := hide (HL.out q x t hT)
    have q2 : (t.l.length : Int) ≤ 1000 := by have := HL.out q x t hT; omega
    obtain ⟨Av, Bv, htx⟩ := HH.out.tx hT
    obtain ⟨Aa, ca, rfl⟩ := htx.l.form
    have HTX := hide htx
    clear hA e1 e2 hlA hT htx
    gi_wp2
    refine ⟨Below.refl _ _, fun C hC hs2 => ?_⟩
    have h1 := HA.out.calm hC E1.out E2.out hwD
    have H1 := hide h1
    have c0 := (HTX.out.below (Ow.bel ⟨F, h1⟩)).cells.1
    have HCS := hide (show A.heap.size ≤ C.heap.size by rw [hs2]; exact Nat.le_refl _)
    have HR0 := hide h1.restart
    clear h1 hC hs2
    generalize hM : keptT T p q = M at *
    have HM := hide hM
    clear hM
    gi_wp2
    gi_loopw [19] (fun i wr => ∃ (j : Nat) (v : Value), j ≤ t.l.length ∧ i = .int .i64 j ∧ Hid (Ow C F wr [Res.blk w.heap.size 3 #[.int .i64 p], Res.blk (w.heap.size + 1) 36 #[v], Res.row intsK v (M ++ keepL p (t.l.take j))])) (fun i _ => t.l.length - (intOf i).toNat)
    case atStart => exact ⟨0, v0, by omega, rfl, hide (by rw [List.take_zero]; show Ow C F C [Res.blk w.heap.size 3 #[.int .i64 p], Res.blk (w.heap.size + 1) 36 #[v0], Res.row intsK v0 (M ++ [])]; rw [List.append_nil]; exact HR0.out)⟩
    case round =>
      obtain ⟨j, v, hj, rfl, hs⟩ := hrel
      by_cases hlt : j < t.l.length
      · obtain ⟨⟨pg, sl, bf⟩, hc⟩ : ∃ ch, t.l[j]? = some ch := ⟨_, List.getElem?_eq_getElem hlt⟩
        have hbw : Below w.heap.size w wr := let ⟨Fk, hk⟩ := hs.out; Ow.bel ⟨Fk, H1.out.join hk⟩
        obtain ⟨g2, cg, eg, _⟩ := HTX.out.l.block (by omega)
        injection eg with eg1 eg2 eg3
        subst eg1 eg3
        have r0 : wr.cell? ⟨g2, j * 3, none⟩ = some (.int .i64 pg) := (HTX.out.below hbw).l.cells hc 0 _ rfl
        have r1 : wr.cell? ⟨g2, j * 3 + 1, none⟩ = some (.int .i64 sl) := (HTX.out.below hbw).l.cells hc 1 _ rfl
        have r2 : wr.cell? ⟨g2, j * 3 + 2, none⟩ = some (.string bf) := (HTX.out.below hbw).l.cells hc 2 _ rfl
        have HC := hide hc
        have HLT := hide hlt
        have p1 : (0 : Int) ≤ (j : Int) := by omega
        have p2 : (j : Int) < (t.l.length : Int) := by omega
        have SB := hide (hs.out.box 31 #[.int .i64 pg, .int .i64 sl, .string bf])
        obtain ⟨b0, b1, b2, _⟩ := (SB.out.blk (i := 3) rfl).three
        have pp : (wr.alloc (.cells #[.int .i64 pg, .int .i64 sl, .string bf] 31)).cell? ⟨w.heap.size, 0, none⟩ = some (.int .i64 p) := (SB.out.blk (i := 0) rfl).cell 0 _ rfl
        clear hc hlt hbw eg2
        by_cases hpg : pg = p
        · subst hpg
          by_cases hbf : bf = ⟨#[]⟩
          · subst hbf
            have HKB := hide (keepB_no2 (p := pg) (c := ⟨pg, sl, ⟨#[]⟩⟩) rfl)
            gi_wp2
            go_roundw
            case rel => exact ⟨j + 1, v, by have := HLT.out; omega, by go_num, hide (by rw [keepL_no HC.out HKB.out]; exact SB.out.take 3)⟩
            case measure => simp [intOf]; have := HLT.out; omega
          · have HKB := hide (keepB_yes (p := pg) (c := ⟨pg, sl, bf⟩) rfl hbf)
            have hbe := isEmpty_ne hbf
            have v1 : (wr.alloc (.cells #[.int .i64 pg, .int .i64 sl, .string bf] 31)).cell? ⟨w.heap.size + 1, 0, none⟩ = some v := (SB.out.blk (i := 1) rfl).cell 0 _ rfl
            have HFW : Hid ((M ++ keepL pg (t.l.take j)).length ≤ 100000) := hide (by
              rw [List.length_append]
              have := keepL_length pg (t.l.take j)
              rw [List.length_take] at this
              have := HML.out
              have := HTL.out
              omega)
            have SC := hide (SB.out.box 3 #[.int .i64 sl])
            obtain ⟨v', w4, hrun, k1, k2, k3⟩ := run_append_k (K := intsK) (x := sl) (SC.out.krow (i := 2) rfl) HFW.out (fun i u hi => (SC.out.blk (i := 4) rfl).cell i u (by rw [← hi, ← Array.getElem?_toList]; rfl)) (c := 1) 36
            obtain ⟨An, Nn, cn, rfl⟩ : ∃ A n c, v' = Value.slice A n c := by
              obtain ⟨A, c, e⟩ := k1.form
              exact ⟨A, _, c, e⟩
            have S8 := hide ((SC.out.appended (i := 2) rfl k1 k2 k3).set_ (i := 1) rfl 0 (.slice An Nn cn))
            have X0 : Hid (w4.cell? ⟨w.heap.size + 1, 0, none⟩ = some v) := hide (((SC.out.appended (i := 2) rfl k1 k2 k3).blk (i := 1) rfl).cell 0 _ rfl)
            have XF : Hid (w4.frozen? ⟨w.heap.size + 1, 0, none⟩ = false) := hide (((SC.out.appended (i := 2) rfl k1 k2 k3).blk (i := 1) rfl).frozen 0)
            have HRUN : Hid ((Builtin.append_ #[36, 36] 36 #[v, .slice (some ⟨wr.heap.size + 1, 0, none⟩) 1 1]).run Try.prog ((wr.alloc (.cells #[.int .i64 pg, .int .i64 sl, .string bf] 31)).alloc (.cells #[.int .i64 sl] 3)) = .ok (.slice An Nn cn) w4) := hide (by
              have h := hrun
              rw [World.size_alloc] at h
              exact h)
            clear k1 k2 k3 hrun
            gi_wp2_with (gi_at_builtin; refine wpListIn_append_run rfl (.tmp 32) (.tmp 35) rfl rfl rfl HRUN.out ?_; have x0 := X0.out; have xf := XF.out)
            go_roundw
            case rel => exact ⟨j + 1, (.slice An Nn cn), by have := HLT.out; omega, by go_num, hide (by rw [keepL_yes HC.out HKB.out, ← List.append_assoc]; exact S8.out.take 3)⟩
            case measure => simp [intOf]; have := HLT.out; omega
        · have HKB := hide (keepB_no1 (p := p) (c := ⟨pg, sl, bf⟩) hpg)
          gi_wp2
          go_roundw
          case rel => exact ⟨j + 1, v, by have := HLT.out; omega, by go_num, hide (by rw [keepL_no HC.out HKB.out]; exact SB.out.take 3)⟩
          case measure => simp [intOf]; have := HLT.out; omega
      · obtain rfl : j = t.l.length := by omega
        clear hlt hj
        gi_wp2
        obtain ⟨k1, F', k2, k3⟩ := H1.out.round_out (m := A.heap.size) (fun k h => .inl h) hs.out HCS.out
        refine ⟨k1, F', ⟨v, ?_⟩, k3⟩
        rw [keptT_some HTQ.out, HM.out]
        rw [List.take_length] at k2
        exact k2
  case done =>
    clear hF S0
    rintro F A ⟨v, hA⟩ e1 hK
    have HA := hide hA
    have HK := hide hK
    have HE1 := hide e1
    have c0 := (Ow.blk (i := 1) ⟨_, hA⟩ rfl).cell 0 _ rfl
    clear hA hK e1
    go_wp2
    refine ⟨by simp, .inl ⟨_, _, rfl, run_takeDeferred HK.out, ?_⟩⟩
    obtain ⟨r1, r2, r3⟩ := (HA.out.shut HE1.out hwD (.deferred none)).rowof (i := 2) rfl
    exact ⟨v, by simp [results, Try.results20, go_sem], v, rfl, r1, r2, r3⟩
  case stop => intro c k A h; exact h.elim
end Go.Proofs.Ytkegfedbffhnfaa
