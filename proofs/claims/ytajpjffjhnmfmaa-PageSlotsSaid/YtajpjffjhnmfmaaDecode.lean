/-
  The contract of Decode of package row.
-/
import Derived.Test.YtajpjffjhnmfmaaDec
namespace Go.Proofs.Ytajpjffjhnmfmaa
open Go.RowKit

theorem equal_yes (v u : Value) (l m : List UInt8) (w : World) (hv : Rd w v (u8s l)) (hu : Rd w u (u8s m)) (h : l = m) :
    Calls Try.prog 25 #[v, u] w fun e w' => e = .returned (.bool true) ∧ w = w' := by
  have := equal_any v u l m w hv hu
  rwa [beq_iff_eq.2 h] at this
theorem equal_no (v u : Value) (l m : List UInt8) (w : World) (hv : Rd w v (u8s l)) (hu : Rd w u (u8s m)) (h : l ≠ m) :
    Calls Try.prog 25 #[v, u] w fun e w' => e = .returned (.bool false) ∧ w = w' := by
  have := equal_any v u l m w hv hu
  rwa [beq_eq_false_iff_ne.2 h] at this
theorem decode_size (v : Value) (l : List UInt8) (w : World) (hv : Rd w v (u8s l)) (h : l.length ≠ 40) :
    Calls Try.prog 28 #[v] w fun e w' => e = .returned (.tuple #[.agg #[.int .i64 0, .string ⟨#[]⟩, .string ⟨#[]⟩], .int .i64 9]) ∧ Below w.heap.size w w' := by
  obtain ⟨A, c, rfl, _, _⟩ := id hv
  rw [u8s_length] at hv ⊢
  have h1 : ((l.length : Int) != 40) = true := by rw [bne_iff_ne]; omega
  clear hv h
  go_enter Try.func28, Try.ntmps28
  go_wp2
  refine bodyPost_ret (v := .tuple #[.agg #[.int .i64 0, .string ⟨#[]⟩, .string ⟨#[]⟩], .int .i64 9]) (by simp [results, Try.results28, go_sem]) rfl ⟨rfl, ?_⟩
  exact (Below.refl _ _).alloc (Nat.le_refl _) _
/-- Forty zeros. -/
def z40 : List UInt8 := List.replicate 40 0
theorem z40_length : z40.length = 40 := rfl
theorem run_make40 (W : World) : (Instr.makeSlice 31 (.int .i64 40) (.int .i64 40)).run Try.prog W = .ok (.slice (some ⟨W.heap.size, 0, none⟩) 40 40) (W.alloc (.cells (blk8 z40) 5)) :=
  run_make8 (P := Try.prog) 31 5 Try.underlying31 info8 40 (by omega) W
theorem rd_sub {w : World} {v : Value} {l : List UInt8} (hv : Rd w v (u8s l)) {n : Nat} (hn : l.length = n) : ∃ A c, v = .slice A n c := by
  obtain ⟨A, c, rfl, _, _⟩ := hv
  exact ⟨A, c, by rw [u8s_length, hn]⟩
theorem decode_zeros (v : Value) (l : List UInt8) (w : World) (hv : Rd w v (u8s l)) (h : l = z40) :
    Calls Try.prog 28 #[v] w fun e w' => e = .returned (.tuple #[.agg #[.int .i64 0, .string ⟨#[]⟩, .string ⟨#[]⟩], .int .i64 5]) ∧ Below w.heap.size w w' := by
  have hmk := run_make40
  obtain ⟨A, c, rfl⟩ := rd_sub hv (n := 40) (by rw [h]; rfl)
  have h1 := (hv.alloc (.cells #[.int .i64 0, .string ⟨#[]⟩, .string ⟨#[]⟩] 46)).alloc (.cells (blk8 z40) 5)
  have hz : Rd ((w.alloc (.cells #[.int .i64 0, .string ⟨#[]⟩, .string ⟨#[]⟩] 46)).alloc (.cells (blk8 z40) 5)) (.slice (some ⟨w.heap.size + 1, 0, none⟩) 40 40) (u8s z40) := by
    refine Blk.rd8 (g := w.heap.size + 1) (t := 5) ?_ rfl (Nat.le_refl _)
    exact heap_at _ _ (by simp)
  have hb := hide ((((Below.refl w.heap.size w).alloc (Nat.le_refl _) (.cells #[.int .i64 0, .string ⟨#[]⟩, .string ⟨#[]⟩] 46)).alloc (by simp) (.cells (blk8 z40) 5)))
  clear hv
  have H := hide h
  clear h
  go_enter Try.func28, Try.ntmps28
  go_wp2_with (go_at_call 25; refine (equal_yes _ _ l z40 _ h1 hz H.out).mono ?_; rintro e w1 ⟨rfl, rfl⟩)
  refine bodyPost_ret (v := .tuple #[.agg #[.int .i64 0, .string ⟨#[]⟩, .string ⟨#[]⟩], .int .i64 5]) (by simp [results, Try.results28, go_sem]) rfl ⟨rfl, ?_⟩
  exact hb.out
theorem dec_some {l : List UInt8} (hl : l.length = 40) (hz : l ≠ z40) : ∃ (k v : ByteArray), k = ⟨(rowK l).toArray⟩ ∧ v = ⟨(rowV l).toArray⟩ ∧
    ((rightB (rowT l : Int) k v = true ∧ encL (rowT l) (rowK l) (rowV l) = l) ∨ ((rightB (rowT l : Int) k v = false ∨ (rightB (rowT l : Int) k v = true ∧ encL (rowT l) (rowK l) (rowV l) ≠ l)) ∧ Dec l 0 ⟨#[]⟩ ⟨#[]⟩ 9)) := by
  refine ⟨_, _, rfl, rfl, ?_⟩
  by_cases h : rightB (rowT l : Int) ⟨(rowK l).toArray⟩ ⟨(rowV l).toArray⟩ = true ∧ encL (rowT l) (rowK l) (rowV l) = l
  · exact .inl h
  · refine .inr ⟨?_, .inl ⟨rfl, rfl, rfl, rfl, hz, ?_⟩⟩
    · by_cases h1 : rightB (rowT l : Int) ⟨(rowK l).toArray⟩ ⟨(rowV l).toArray⟩ = true
      · exact .inr ⟨h1, fun e => h ⟨h1, e⟩⟩
      · exact .inl (by simpa using h1)
    · rintro t k v ht hk hv rfl
      obtain ⟨h1, h2, h3⟩ := row_enc t k v (by omega) hk hv
      refine h ⟨?_, ?_⟩
      · rw [h1, h2, h3, rightB_iff, arr_size, arr_size]
        omega
      · rw [h1, h2, h3]
/-- The world in which Decode asks for zeros. -/
def decW (w : World) : World := (w.alloc (.cells #[.int .i64 0, .string ⟨#[]⟩, .string ⟨#[]⟩] 46)).alloc (.cells (blk8 z40) 5)
theorem decW_below (w : World) : Below w.heap.size w (decW w) := ((Below.refl w.heap.size w).alloc (Nat.le_refl _) _).alloc (by simp) _
theorem decW_blk (w : World) : Blk (decW w) w.heap.size 46 #[.int .i64 0, .string ⟨#[]⟩, .string ⟨#[]⟩] := Blk.alloc (heap_new w _) _
theorem decW_zeros (w : World) : Rd (decW w) (.slice (some ⟨w.heap.size + 1, 0, none⟩) 40 40) (u8s z40) := by
  refine Blk.rd8 (g := w.heap.size + 1) (t := 5) ?_ rfl (Nat.le_refl _)
  exact heap_at _ _ (by simp)
theorem decW_size (w : World) : (decW w).heap.size = w.heap.size + 2 := by simp [decW]
theorem dec_equal_no (v : Value) (l : List UInt8) (w : World) (hv : Rd (decW w) v (u8s l)) (h : l ≠ z40) :
    Calls Try.prog 25 #[v, .slice (some ⟨w.heap.size + 1, 0, none⟩) 40 40] ((w.alloc (.cells #[.int .i64 0, .string ⟨#[]⟩, .string ⟨#[]⟩] 46)).alloc (.cells (blk8 z40) 5)) fun e w' => e = .returned (.bool false) ∧ decW w = w' :=
  equal_no v _ l z40 (decW w) hv (decW_zeros w) h
theorem read_told {w : World} {lo g : Nat} {l : List UInt8} (h : Rdr w lo g ⟨l, false⟩) (hm : l.length ≤ 1000) (k v : ByteArray) (hk : k = ⟨(rowK l).toArray⟩) (hv : v = ⟨(rowV l).toArray⟩) :
    Calls Try.prog 34 #[ptr g] w fun e w' => e = .returned (.agg #[.int .i64 (rowT l : Int), .string k, .string v]) ∧ w.grownBy w' (some g) := by
  subst hk hv
  exact read_any h hm
theorem encode_told (t : Nat) (k v : ByteArray) (l : List UInt8) (w : World) (hk : k = ⟨(rowK l).toArray⟩) (hv : v = ⟨(rowV l).toArray⟩) (h : rightB t k v = true) :
    Calls Try.prog 18 #[.agg #[.int .i64 (t : Int), .string k, .string v]] w fun e w' => ∃ v', e = .returned v' ∧ Rd w' v' (u8s (encL t (rowK l) (rowV l))) ∧ Below w.heap.size w w' := by
  refine (encode_yes t k v w h).mono ?_
  rintro e w' ⟨v', rfl, hm, hb⟩
  rw [hk, hv, arr_list, arr_list] at hm
  exact ⟨v', rfl, hm.rd, hb⟩
theorem below_set {B : Nat} {a w : World} (h : Below B a w) {p : Addr} (hp : B ≤ p.block) (u : Value) : Below B a (w.setCell p u) := Below.setCell h hp u
theorem dec_below {w w2 w3 : World} {g : Nat} (h2 : Below (decW w).heap.size (decW w) w2) (hlo : (decW w).heap.size ≤ g) (h3 : w2.grownBy w3 (some g)) : Below w.heap.size w w3 := by
  have h := decW_below w
  have hs := decW_size w
  refine (h.trans (h2.mono (by omega))).grown h3 (by have := h2.size; omega) fun k hk => ?_
  injection hk with hk
  omega
set_option maxHeartbeats 1000000 in
theorem decode_row (v : Value) (l : List UInt8) (w : World) (hv : Rd w v (u8s l)) (hl : l.length = 40) (hz : l ≠ z40) :
    Calls Try.prog 28 #[v] w fun e w' => ∃ t k v e', e = .returned (.tuple #[.agg #[.int .i64 t, .string k, .string v], .int .i64 e']) ∧ Dec l t k v e' ∧ Below w.heap.size w w' := by
  obtain ⟨k, u, hk, hu, h⟩ := dec_some hl hz
  have hmk := run_make40
  obtain ⟨A, c, rfl⟩ := rd_sub hv hl
  have h1 := hv.below (decW_below w)
  have HB := hide (decW_below w)
  have B0 := decW_blk w
  have HS := hide (decW_size w)
  have HK := hide hk
  have HU := hide hu
  have HL := hide hl
  have HZ := hide hz
  have HV := hide hv
  clear hk hu hv hl hz
  rcases h with ⟨hr, he⟩ | ⟨hr | ⟨hr, he⟩, hd⟩
  · have HE := hide he
    clear he
    go_enter Try.func28, Try.ntmps28
    go_wp2_with (first
      | (go_at_call 25; (with_reducible refine (dec_equal_no _ l w h1 HZ.out).mono ?_); rintro e w1 ⟨rfl, rfl⟩)
      | (go_at_call 30; (with_reducible refine (new_any _ l _ (by rw [HL.out]; decide) h1).mono ?_); rintro e w2 ⟨g, rfl, hr2, hb2⟩; have B2 := B0.below hb2; have hlo := hide hr2.lo_le)
      | (go_at_call 34; (with_reducible refine (read_told hr2 (by rw [HL.out]; decide) k u HK.out HU.out).mono ?_); rintro e w3 ⟨rfl, hg3⟩; have B3 := B2.grown hg3 (fun e => by injection e with e; have := hlo.out; have := HS.out; omega); have HB3 := dec_below hb2 hlo.out hg3; have h3 := HV.out.below HB3; have R3 : Blk (w3.alloc (.cells #[.int .i64 (rowT l : Int), .string k, .string u] 46)) w3.heap.size 46 #[.int .i64 (rowT l : Int), .string k, .string u] := heap_new w3 _; have HB4 := hide (HB3.alloc HB3.size (.cells #[.int .i64 (rowT l : Int), .string k, .string u] 46)))
      | (go_at_call 18; (with_reducible refine (encode_told (rowT l) k u l _ HK.out HU.out hr).mono ?_); rw [HE.out]; rintro e w4 ⟨v4, rfl, hr4, hb4⟩; have h4 := (h3.alloc (.cells #[.int .i64 (rowT l : Int), .string k, .string u] 46)).below hb4; obtain ⟨c1, c2, c3⟩ := ((B3.alloc _).below hb4).three; obtain ⟨f1, f2, f3⟩ := ((B3.alloc _).below hb4).three_f; obtain ⟨c4, c5, c6⟩ := (R3.below hb4).three)
      | (go_at_call 25; (with_reducible refine (equal_yes v4 _ l l _ hr4 h4 rfl).mono ?_); rintro e w5 ⟨rfl, rfl⟩))
    refine bodyPost_ret (v := .tuple #[.agg #[.int .i64 (rowT l : Int), .string k, .string u], .int .i64 0]) (by simp [results, Try.results28, go_sem, c1, c2, c3]) rfl ⟨_, _, _, _, rfl, .inr (.inr ⟨rfl, hr, ?_⟩), ?_⟩
    · rw [HK.out, HU.out, arr_list, arr_list]; exact HE.out
    · exact below_set (below_set (below_set (HB4.out.trans (hb4.mono HB4.out.size)) (Nat.le_refl _) _) (Nat.le_refl _) _) (Nat.le_refl _) _
  · have HD := hide hd
    clear hd
    have hne : ([] : List UInt8) ≠ l := fun e => by have := HL.out; rw [← e] at this; cases this
    have HN := hide hne
    clear hne
    go_enter Try.func28, Try.ntmps28
    go_wp2_with (first
      | (go_at_call 25; (with_reducible refine (dec_equal_no _ l w h1 HZ.out).mono ?_); rintro e w1 ⟨rfl, rfl⟩)
      | (go_at_call 30; (with_reducible refine (new_any _ l _ (by rw [HL.out]; decide) h1).mono ?_); rintro e w2 ⟨g, rfl, hr2, hb2⟩; have B2 := B0.below hb2; have hlo := hide hr2.lo_le)
      | (go_at_call 34; (with_reducible refine (read_told hr2 (by rw [HL.out]; decide) k u HK.out HU.out).mono ?_); rintro e w3 ⟨rfl, hg3⟩; have B3 := B2.grown hg3 (fun e => by injection e with e; have := hlo.out; have := HS.out; omega); have HB3 := dec_below hb2 hlo.out hg3; have h3 := HV.out.below HB3; have R3 : Blk (w3.alloc (.cells #[.int .i64 (rowT l : Int), .string k, .string u] 46)) w3.heap.size 46 #[.int .i64 (rowT l : Int), .string k, .string u] := heap_new w3 _; have HB4 := hide (HB3.alloc HB3.size (.cells #[.int .i64 (rowT l : Int), .string k, .string u] 46)))
      | (go_at_call 18; (with_reducible refine (encode_no _ k u _ hr).mono ?_); rintro e w4 ⟨rfl, hb4⟩; have h4 := (h3.alloc (.cells #[.int .i64 (rowT l : Int), .string k, .string u] 46)).below hb4; obtain ⟨c1, c2, c3⟩ := ((B3.alloc _).below hb4).three; obtain ⟨f1, f2, f3⟩ := ((B3.alloc _).below hb4).three_f)
      | (go_at_call 25; (with_reducible refine (equal_no (.slice none 0 0) _ [] l _ (Rd.nil_ _ _ _) h4 HN.out).mono ?_); rintro e w5 ⟨rfl, rfl⟩))
    refine bodyPost_ret (v := .tuple #[.agg #[.int .i64 0, .string ⟨#[]⟩, .string ⟨#[]⟩], .int .i64 9]) (by simp [results, Try.results28, go_sem, c1, c2, c3]) rfl ⟨_, _, _, _, rfl, HD.out, ?_⟩
    exact below_set (below_set (below_set (HB4.out.trans (hb4.mono HB4.out.size)) (Nat.le_refl _) _) (Nat.le_refl _) _) (Nat.le_refl _) _
  · have HD := hide hd
    have HE := hide he
    clear hd he
    · go_enter Try.func28, Try.ntmps28
      go_wp2_with (first
        | (go_at_call 25; (with_reducible refine (dec_equal_no _ l w h1 HZ.out).mono ?_); rintro e w1 ⟨rfl, rfl⟩)
        | (go_at_call 30; (with_reducible refine (new_any _ l _ (by rw [HL.out]; decide) h1).mono ?_); rintro e w2 ⟨g, rfl, hr2, hb2⟩; have B2 := B0.below hb2; have hlo := hide hr2.lo_le)
        | (go_at_call 34; (with_reducible refine (read_told hr2 (by rw [HL.out]; decide) k u HK.out HU.out).mono ?_); rintro e w3 ⟨rfl, hg3⟩; have B3 := B2.grown hg3 (fun e => by injection e with e; have := hlo.out; have := HS.out; omega); have HB3 := dec_below hb2 hlo.out hg3; have h3 := HV.out.below HB3; have R3 : Blk (w3.alloc (.cells #[.int .i64 (rowT l : Int), .string k, .string u] 46)) w3.heap.size 46 #[.int .i64 (rowT l : Int), .string k, .string u] := heap_new w3 _; have HB4 := hide (HB3.alloc HB3.size (.cells #[.int .i64 (rowT l : Int), .string k, .string u] 46)))
        | (go_at_call 18; (with_reducible refine (encode_told (rowT l) k u l _ HK.out HU.out hr).mono ?_); rintro e w4 ⟨v4, rfl, hr4, hb4⟩; have h4 := (h3.alloc (.cells #[.int .i64 (rowT l : Int), .string k, .string u] 46)).below hb4; obtain ⟨c1, c2, c3⟩ := ((B3.alloc _).below hb4).three; obtain ⟨f1, f2, f3⟩ := ((B3.alloc _).below hb4).three_f; obtain ⟨c4, c5, c6⟩ := (R3.below hb4).three)
        | (go_at_call 25; (with_reducible refine (equal_no v4 _ _ l _ hr4 h4 HE.out).mono ?_); rintro e w5 ⟨rfl, rfl⟩))
      refine bodyPost_ret (v := .tuple #[.agg #[.int .i64 0, .string ⟨#[]⟩, .string ⟨#[]⟩], .int .i64 9]) (by simp [results, Try.results28, go_sem, c1, c2, c3]) rfl ⟨_, _, _, _, rfl, HD.out, ?_⟩
      exact below_set (below_set (below_set (HB4.out.trans (hb4.mono HB4.out.size)) (Nat.le_refl _) _) (Nat.le_refl _) _) (Nat.le_refl _) _
end Go.Proofs.Ytajpjffjhnmfmaa
