/-
  Package lane: zeros and Wipe, of any region, whether the disk goes down on the way or not.
-/
import Derived.Test.YtlplibgcfhamgaaDx15
import Derived.Test.YtlplibgcfhamgaaFit
namespace Go.Proofs.Ytlplibgcfhamgaa
open Go.RowKit
set_option maxRecDepth 20000
set_option linter.unusedSimpArgs false
set_option linter.unusedVariables false

def zb (b : Sec) : Bool := b.all (· == 0)
theorem zb_zsec {b : Sec} (h : b.length = 64) (hz : zb b = true) : b = zsec := by
  unfold zb at hz
  rw [List.all_eq_true] at hz
  refine List.eq_replicate_iff.2 ⟨h, fun x hx => ?_⟩
  have := hz x hx
  simpa using this
set_option maxHeartbeats 4000000 in
theorem zeros_any (l : List UInt8) {A : Option Addr} {n c : Nat} {w : World} (hn : l.length = n) (h1 : n ≤ 100000) (hv : Rd w (.slice A n c) (u8s l)) :
    Calls Try.prog 32 #[.slice A n c] w fun e w' => e = .returned (.bool (zb l)) ∧ w = w' := by
  obtain ⟨A', c', ee, _, hcell⟩ := hv
  injection ee with e1 e2 e3
  subst e1
  subst e3
  go_enter Try.func32, Try.ntmps32
  go_wp2
  go_loopw [7] (fun i wr => ∃ j : Nat, j ≤ n ∧ i = .int .i64 j ∧ (∀ x ∈ l.take j, x = 0) ∧ w = wr) (fun i _ => n - (intOf i).toNat)
  case atStart => exact ⟨0, by omega, rfl, (fun x hx => by cases hx), rfl⟩
  case round =>
    obtain ⟨j, hj, rfl, hall, rfl⟩ := hrel
    by_cases hlt : j < n
    · obtain ⟨b, o, rfl, _, hc2⟩ := hcell (by rw [u8s_length]; omega)
      obtain ⟨z, hz⟩ : ∃ z, l[j]? = some z := ⟨_, List.getElem?_eq_getElem (by omega)⟩
      obtain ⟨m, hm⟩ : ∃ m : Nat, z.toNat = m := ⟨_, rfl⟩
      have hcz : w.cell? ⟨b, o + j, none⟩ = some (.int .u8 (m : Int)) := hc2 j _ (by simp [u8s, hz, hm])
      have hj1 : (j : Int) < (n : Int) := by omega
      have hj0 : (0 : Int) ≤ (j : Int) := by omega
      have HALL := hide hall
      have HZ := hide hz
      have HM := hide hm
      clear hall hz hm hc2 hcell
      by_cases hm0 : m = 0
      · subst hm0
        go_wp2
        go_roundw
        case rel =>
          refine ⟨j + 1, by omega, by go_num, fun x hx => ?_, trivial⟩
          have hz0 : z = 0 := UInt8.toNat_inj.1 HM.out
          rw [List.take_add_one, HZ.out] at hx
          rcases List.mem_append.1 hx with hx | hx
          · exact HALL.out x hx
          · rw [← hz0]; simpa using hx
        case measure => simp [intOf]; omega
      · have hm1 : ((m : Int) == 0) = false := by rw [beq_eq_false_iff_ne]; omega
        have hm2 : ¬ (m : Int) = 0 := by omega
        go_wp2
        have hzb : zb l = false := by
          unfold zb
          rw [List.all_eq_false]
          refine ⟨z, List.mem_of_getElem? HZ.out, ?_⟩
          intro h
          have : z = 0 := by simpa using h
          subst this
          exact hm0 HM.out.symm
        go_ret
        rw [hzb]
        exact ⟨rfl, rfl⟩
    · obtain rfl : j = n := by omega
      rw [List.take_of_length_le (by omega)] at hall
      have hzb : zb l = true := by
        unfold zb
        rw [List.all_eq_true]
        exact fun x hx => by rw [hall x hx]; rfl
      go_wp2
      go_ret
      rw [hzb]
      exact ⟨rfl, rfl⟩

/-- Zeros where l says. -/
def wiped (S : List Sec) (l : List Nat) : List Sec := l.foldl (fun S s => S.set s zsec) S
theorem wiped_get (l : List Nat) : ∀ (S : List Sec) (i : Nat), (wiped S l)[i]? = if i ∈ l then S[i]?.map (fun _ => zsec) else S[i]? := by
  induction l with
  | nil => intro S i; simp [wiped]
  | cons a l ih =>
    intro S i
    show (wiped (S.set a zsec) l)[i]? = _
    rw [ih, List.getElem?_set]
    by_cases h1 : i ∈ l
    · rw [if_pos h1, if_pos (List.mem_cons_of_mem _ h1)]
      split
      · rename_i e; subst e
        split
        · rename_i hlt; rw [List.getElem?_eq_getElem hlt]; rfl
        · rename_i hlt; rw [List.getElem?_eq_none (by omega)]
      · rfl
    · rw [if_neg h1]
      by_cases e : a = i
      · subst e
        rw [if_pos rfl, if_pos (List.mem_cons_self ..)]
        split
        · rename_i hlt; rw [List.getElem?_eq_getElem hlt]; rfl
        · rename_i hlt; rw [List.getElem?_eq_none (by omega)]; rfl
      · rw [if_neg e, if_neg (by simp [h1, Ne.symm e])]
/-- The sectors from f on, below s, that aren't zeros. -/
def fulls (S : List Sec) (f s : Nat) : List Nat := (List.range' f (s - f)).filter fun i => !zb (S.getD i zsec)
theorem fulls_step (S : List Sec) (f s : Nat) (b : Sec) (h : f ≤ s) (hb : S[s]? = some b) : fulls S f (s + 1) = fulls S f s ++ if zb b then [] else [s] := by
  unfold fulls
  rw [show s + 1 - f = (s - f) + 1 by omega, List.range'_concat, List.filter_append]
  congr 1
  have e : f + 1 * (s - f) = s := by omega
  rw [e, List.filter_cons, List.getD_eq_getElem?_getD, hb, show (some b).getD zsec = b from rfl]
  cases zb b <;> simp
theorem fulls_length (S : List Sec) (f s : Nat) : (fulls S f s).length ≤ s := by
  unfold fulls
  have := List.length_filter_le (fun i => !zb (S.getD i zsec)) (List.range' f (s - f))
  rw [List.length_range'] at this
  omega
theorem fulls_zero (S : List Sec) (f s : Nat) (h : s ≤ f) : fulls S f s = [] := by
  unfold fulls
  rw [show s - f = 0 by omega]
  rfl
theorem fulls_lt {S : List Sec} {f s i : Nat} (h : i ∈ fulls S f s) : f ≤ i ∧ i < s := by
  obtain ⟨h1, _⟩ := List.mem_filter.1 h
  have := List.mem_range'_1.1 h1
  omega
theorem fulls_all {S : List Sec} {f t : Nat} (h64 : ∀ b ∈ S, b.length = 64) (i : Nat) : (wiped S (fulls S f t))[i]? = if f ≤ i ∧ i < t then S[i]?.map (fun _ => zsec) else S[i]? := by
  rw [wiped_get]
  by_cases hr : f ≤ i ∧ i < t
  · rw [if_pos hr]
    split
    · rfl
    · rename_i hn
      cases hs : S[i]? with
      | none => rfl
      | some b =>
        have hzb : zb b = true := by
          cases hz : zb b with
          | true => rfl
          | false =>
            refine absurd (List.mem_filter.2 ⟨List.mem_range'_1.2 (by omega), ?_⟩) hn
            rw [List.getD_eq_getElem?_getD, hs]
            show (!zb b) = true
            rw [hz]; rfl
        rw [zb_zsec (h64 b (List.mem_of_getElem? hs)) hzb]
        rfl
  · rw [if_neg hr, if_neg (fun h => hr (fulls_lt h))]
def natsI (l : List Nat) : List Value := l.map fun (x : Nat) => .int .i64 (x : Int)
theorem natsI_length (l : List Nat) : (natsI l).length = l.length := List.length_map ..
theorem natsI_snoc (l : List Nat) (x : Nat) : natsI (l ++ [x]) = natsI l ++ [.int .i64 (x : Int)] := by simp [natsI]
theorem infoI : (Try.prog.info? 3).map (fun i => (i.zero, i.size, i.bytes)) = some (some (.int .i64 0), 1, 8) := by kernel_rfl
/-- X and what came between two sizes. -/
def Ext2 (X : Nat → Prop) (lo hi : Nat) : Nat → Prop := fun k => X k ∨ (lo ≤ k ∧ k < hi)
theorem own_cell {w : World} {B : Nat} {t : TypeId} {A : Option Addr} {n c : Nat} {xs : List Value} (h : w.ownsRow B t 1 (.slice A n c) n xs) (j : Nat) (u : Value) (hu : xs[j]? = some u) : ∃ b, A = some ⟨b, 0, none⟩ ∧ w.cell? ⟨b, j, none⟩ = some u ∧ B ≤ b ∧ b < w.heap.size := by
  have hlt := World.ownsRow.lt h
  obtain ⟨hl, h2⟩ := h
  rcases h2 with ⟨_, h0⟩ | ⟨g, cap, cur, e, hg, hh, hn, hcap, hsz, htake⟩
  · subst h0
    rw [Nat.zero_mul] at hl
    rw [List.eq_nil_of_length_eq_zero hl] at hu
    simp at hu
  · injection e with e1 e2 e3
    subst e1
    refine ⟨g, rfl, ?_, hlt g rfl⟩
    unfold World.cell?
    simp only [hh]
    rw [← htake, List.getElem?_take] at hu
    split at hu
    · simpa using hu
    · cases hu
theorem own_below {w w' : World} {B : Nat} {t : TypeId} {v : Value} {n : Nat} {xs : List Value} (h : w.ownsRow B t 1 v n xs) (hb : Below w.heap.size w w') : w'.ownsRow B t 1 v n xs :=
  World.ownsRow.kept (row := none) h ⟨hb.os, hb.tape, hb.output, hb.size, fun k hk _ => hb.block k hk⟩ (by
    cases hv : v.ownBlock with
    | none => exact .inl rfl
    | some k => exact .inr (by simp))
theorem below_alloc (w : World) (o : Obj) : Below w.heap.size w (w.alloc o) := (Below.refl _ _).alloc (Nat.le_refl _) o
theorem own_alloc {w : World} {B : Nat} {t : TypeId} {v : Value} {n : Nat} {xs : List Value} (h : w.ownsRow B t 1 v n xs) (o : Obj) : (w.alloc o).ownsRow B t 1 v n xs := own_below h (below_alloc w o)
theorem natsI_append (l m : List Nat) : natsI (l ++ m) = natsI l ++ natsI m := by simp [natsI]
/-- What a wiping of the sectors l makes of a disk, and what it answers. -/
def wipeL (d : Ds) (r : Int) : List Nat → Ds × Int
  | [] => (d.br r, d.brCode r)
  | s :: l => if d.wrCode r (s : Int) 0 = 0 then wipeL (d.wr r (s : Int) []) r l else (d.wr r (s : Int) [], d.wrCode r (s : Int) 0)
theorem wipeL_nil (d : Ds) (r : Int) : wipeL d r [] = (d.br r, d.brCode r) := rfl
theorem wipeL_go {d : Ds} {r : Int} {s : Nat} {l : List Nat} (h : d.wrCode r (s : Int) 0 = 0) : wipeL d r (s :: l) = wipeL (d.wr r (s : Int) []) r l := by rw [wipeL, if_pos h]
theorem wipeL_stop {d : Ds} {r : Int} {s : Nat} {l : List Nat} (h : ¬ d.wrCode r (s : Int) 0 = 0) : wipeL d r (s :: l) = (d.wr r (s : Int) [], d.wrCode r (s : Int) 0) := by rw [wipeL, if_neg h]
theorem rd_at {d : Ds} {r : Int} {g : Rg} {n s : Nat} (hr : d.at? r = some g) (hg : g.Fit n) (hz : d.size = n) (hs : s < n) : ∃ b, d.rd? r (s : Int) = some b ∧ g.secs[s]? = some b ∧ b.length = 64 := by
  have hl := hg.secs_length
  refine ⟨g.secs[s]'(by omega), ?_, List.getElem?_eq_getElem _, hg.secs_full _ (List.getElem_mem _)⟩
  rw [rd_some hr (by omega) (by rw [hz]; omega), Int.toNat_natCast]
  exact List.getElem?_eq_getElem _
set_option maxHeartbeats 8000000 in
theorem wipe_any {w : World} {X : Nat → Prop} {dg : Nat} {d : Ds} {g : Rg} {n k f t : Nat} {r : Int} (h : Many w X [(dg, d)]) (hr : d.at? r = some g) (hg : g.Fit n) (hz : d.size = n) (hs : Small d k) (hn : n ≤ 60000) (hk : k + n ≤ 900000) (hf : f ≤ n) (ht : t ≤ n) :
    Calls Try.prog 28 #[.pointer (some ⟨dg, 0, none⟩), .int .i64 r, .int .i64 (f : Int), .int .i64 (t : Int)] w fun e w' => e = .returned (.int .i64 (wipeL d r (fulls g.secs f t)).2) ∧ Many w' X [(dg, (wipeL d r (fulls g.secs f t)).1)] ∧ Out X w w' := by
  have HM := hide h
  have HR := hide hr
  have HG := hide hg
  have HZ0 := hide hz
  have HS0 := hide hs
  obtain ⟨i0, hi, hz0, hz1, hz2⟩ := info_parts infoI
  clear h hr hg hz hs
  go_enter Try.func28, Try.ntmps28
  go_wp2
  go_loopw [9, 10] (fun v i wr => ∃ s : Nat, s ≤ n ∧ i = .int .i64 s ∧ (f ≤ s ∧ (s ≤ t ∨ s = f)) ∧ wr.ownsRow w.heap.size 3 1 v (fulls g.secs f s).length (natsI (fulls g.secs f s)) ∧ Below w.heap.size w wr) (fun _ i _ => n + 1 - (intOf i).toNat)
  case atStart => exact ⟨f, hf, rfl, ⟨Nat.le_refl _, .inr rfl⟩, by rw [fulls_zero _ _ _ (Nat.le_refl _)]; exact own_nil _ _ _, Below.refl _ _⟩
  case round =>
    obtain ⟨s, hs, rfl, ⟨hfs, hst2⟩, hown, hbel⟩ := hrel
    by_cases hlt : s < t
    · obtain ⟨b, hb2, hbs, hb64⟩ := rd_at HR.out HG.out HZ0.out (s := s) (by omega)
      have hread := read_many (HM.out.below hbel) (i := 0) rfl r (s : Int) hb2
      unfold ptr at hread
      have hst : (s : Int) < (t : Int) := by omega
      have hstep := fulls_step g.secs f s b hfs hbs
      have hlen2 := fulls_length g.secs f s
      obtain ⟨acc, hacc⟩ : ∃ acc, fulls g.secs f s = acc := ⟨_, rfl⟩
      rw [hacc] at hown hstep hlen2
      have OWN := hide hown
      have HB := hide hbel
      have HST := hide hstep
      have H64 := hide hb64
      have HLE := hide hlen2
      clear hown hbel hstep hacc hb2 hbs hb64 hlen2
      cases hzb : zb b
      · have HZ := hide hzb
        clear hzb
        go_wp2_with (first
          | (go_at_call 14; go_loud ((with_reducible refine hread.mono ?_); rintro e w2 ⟨rfl, _, hblk, hm2, hb2⟩; have hz := zeros_any b (n := 64) (c := 64) H64.out (by omega) (Rd.of_block hblk (by simp [H64.out, blk8_size]) (Nat.le_refl _)); rw [HZ.out] at hz; have OWN2 := hide (own_below OWN.out hb2); have B2 := hide (HB.out.trans (hb2.mono HB.out.size)); clear hblk hm2 hb2 hread))
          | (go_at_call 32; ((with_reducible refine hz.mono ?_); rintro e w3 ⟨rfl, rfl⟩))
          | (at_builtin; refine wpList_append_rd rfl (.tmp 35) (.tmp 37) 24 rfl (base := w.heap.size) 3 i0 (.int .i64 0) 8 Try.underlying24 hi hz0 hz1 hz2 rfl _ acc.length (natsI acc) rfl (own_alloc OWN2.out _) (.slice (some ⟨w2.heap.size, 0, none⟩) 1 1) [.int .i64 (s : Int)] rfl (Rd.new_ w2 #[.int .i64 (s : Int)] _ _ rfl rfl (Nat.le_refl _) rfl) (fun u hu => by rw [List.mem_singleton] at hu; subst hu; rfl) (by have := HLE.out; simp only [List.length_singleton, maxLen]; omega) (by have := HLE.out; simp only [List.length_singleton]; omega) (Nat.le_trans B2.out.size (by simp)) ?_; intro v6 w6 own6 grow6 at6; have O6 := hide own6; have B6 := hide ((B2.out.trans ((below_alloc w2 _).mono B2.out.size)).grown grow6 (Nat.le_trans B2.out.size (by simp)) (fun k hk => (World.ownsRow.lt OWN2.out k hk).1)); clear own6 grow6 at6))
        go_roundw
        case rel => exact ⟨s + 1, by omega, by go_num, ⟨by omega, .inl (by omega)⟩, by rw [HST.out, HZ.out, List.length_append, natsI_append]; exact O6.out, B6.out⟩
        case measure => simp [intOf]; omega
      · have HZ := hide hzb
        clear hzb
        go_wp2_with (first
          | (go_at_call 14; go_loud ((with_reducible refine hread.mono ?_); rintro e w2 ⟨rfl, _, hblk, hm2, hb2⟩; have hz := zeros_any b (n := 64) (c := 64) H64.out (by omega) (Rd.of_block hblk (by simp [H64.out, blk8_size]) (Nat.le_refl _)); rw [HZ.out] at hz; have OWN2 := hide (own_below OWN.out hb2); have B2 := hide (HB.out.trans (hb2.mono HB.out.size)); clear hblk hm2 hb2 hread))
          | (go_at_call 32; ((with_reducible refine hz.mono ?_); rintro e w3 ⟨rfl, rfl⟩)))
        go_roundw
        case rel => exact ⟨s + 1, by omega, by go_num, ⟨by omega, .inl (by omega)⟩, by rw [HST.out, HZ.out, if_pos rfl, List.append_nil]; exact OWN2.out, B2.out⟩
        case measure => simp [intOf]; omega
    · rename World => w1
      have hst : ¬ (s : Int) < (t : Int) := by omega
      have hfe : fulls g.secs f s = fulls g.secs f t := by
        rcases hst2 with h1 | h1
        · rw [show s = t by omega]
        · rw [fulls_zero _ _ s (by omega), fulls_zero _ _ t (by omega)]
      rw [hfe] at hown
      have hflt : ∀ i ∈ fulls g.secs f t, i < n := fun i hi => by have := fulls_lt hi; omega
      have hlen2 := fulls_length g.secs f t
      obtain ⟨acc, hacc⟩ : ∃ acc, fulls g.secs f t = acc := ⟨_, rfl⟩
      rw [hacc] at hown hflt hlen2
      have HACC := hide hacc
      obtain ⟨A, c, rfl⟩ := own_form hown
      have hcells : ∀ (j x : Nat), acc[j]? = some x → ∃ b, A = some ⟨b, 0, none⟩ ∧ World.cell? w1 ⟨b, j, none⟩ = some (.int .i64 (x : Int)) ∧ w.heap.size ≤ b ∧ b < w1.heap.size := by
        intro j x hx
        have hr := own_cell hown j (.int .i64 (x : Int)) (by simp [natsI, hx])
        exact hr
      have HC := hide hcells
      have HLT := hide hflt
      have HLE := hide hlen2
      have hm2 := HM.out.more (Y := Ext2 X w.heap.size w1.heap.size) hbel (fun k hk => hk)
      have HM2 := hide hm2
      have HB := hide hbel
      obtain ⟨m, hm⟩ : ∃ m, acc.length = m := ⟨_, rfl⟩
      rw [hm] at hown HLE ⊢
      have HMM := hide hm
      have hm6 : m ≤ 60000 := by have := HLE.out; omega
      clear hown hcells hfe hst2 hacc hflt hlen2 hbel hm2 hm
      have HSUM := hide (show ∀ z w', z = (wipeL d r (fulls g.secs f t)).2 → Many w' X [(dg, (wipeL d r (fulls g.secs f t)).1)] → Out X w w' → (Ending.returned (Value.int .i64 z) = .returned (.int .i64 (wipeL d r (fulls g.secs f t)).2) ∧ Many w' X [(dg, (wipeL d r (fulls g.secs f t)).1)] ∧ Out X w w') from fun z w' h1 h2 h3 => ⟨by rw [h1], h2, h3⟩)
      go_wp2
      go_loopw [41] (fun i wr => ∃ (j : Nat) (d' : Ds), j ≤ m ∧ i = .int .i64 j ∧ Many wr (Ext2 X w.heap.size w1.heap.size) [(dg, d')] ∧ Hid (wipeL d' r (acc.drop j) = wipeL d r acc) ∧ Small d' (k + j) ∧ Out (Ext2 X w.heap.size w1.heap.size) w1 wr) (fun i _ => m - (intOf i).toNat)
      case atStart => exact ⟨0, d, by omega, rfl, HM2.out, rfl, HS0.out, Out.refl _ _⟩
      case round =>
        obtain ⟨j, d', hj, rfl, hmm, hwl, hsm, ho⟩ := hrel
        by_cases hjl : j < m
        · obtain ⟨x, hx⟩ : ∃ x, acc[j]? = some x := ⟨_, List.getElem?_eq_getElem (by rw [HMM.out]; exact hjl)⟩
          have hdrop : acc.drop j = x :: acc.drop (j + 1) := by
            rw [List.drop_eq_getElem_cons (by rw [HMM.out]; exact hjl)]
            rw [List.getElem?_eq_getElem (by rw [HMM.out]; exact hjl)] at hx
            rw [Option.some.inj hx]
          obtain ⟨b, rfl, hc1, hb1, hb2⟩ := HC.out j x hx
          have hcz : World.cell? wr ⟨b, j, none⟩ = some (.int .i64 (x : Int)) := (Kept.cell ho hb2 (fun hn => hn (.inr ⟨hb1, hb2⟩))).trans hc1
          have hwr := write_many hmm (i := 0) rfl (hsm.more (by omega)) r (x : Int) none 0 [] (Rd.nil_ _ _ _)
          unfold ptr at hwr
          simp only [List.length_nil] at hwr
          have O := hide ho
          have SM := hide (hsm.wr r (x : Int) [])
          have hj0 : (0 : Int) ≤ (j : Int) := by omega
          have hj1 : (j : Int) < (m : Int) := by omega
          have HC2 := HC
          clear hx hc1 hb1 hb2 hmm hsm ho HC
          obtain ⟨c, hc⟩ : ∃ c, d'.wrCode r (x : Int) 0 = c := ⟨_, rfl⟩
          by_cases hc0 : c = 0
          · subst hc0
            have HW := hide ((wipeL_go hc).symm.trans ((congrArg (wipeL d' r) hdrop).symm.trans hwl.out))
            rw [hc] at hwr
            clear hc hdrop hwl
            go_wp2_with (go_at_call 8; ((with_reducible refine hwr.mono ?_); rintro e w4 ⟨rfl, hm4, ho4⟩; have M4 := hide hm4; have O4 := hide (O.out.trans ho4); clear hm4 ho4 hwr))
            go_roundw
            case rel => exact ⟨j + 1, _, by omega, by go_num, M4.out, HW.out, SM.out, O4.out⟩
            case measure => simp [intOf]; omega
          · have HW := hide ((wipeL_stop (by rw [hc]; exact hc0) (l := acc.drop (j + 1))).symm.trans ((congrArg (wipeL d' r) hdrop).symm.trans hwl.out))
            have hcb : (c == 0) = false := by rw [beq_eq_false_iff_ne]; exact hc0
            rw [hc] at hwr HW
            clear hc hdrop hwl
            go_wp2_with (go_at_call 8; ((with_reducible refine hwr.mono ?_); rintro e w4 ⟨rfl, hm4, ho4⟩; have M4 := hide hm4; have O4 := hide (O.out.trans ho4); clear hm4 ho4 hwr))
            go_ret
            refine HSUM.out _ _ (by rw [HACC.out, ← HW.out]) ?_ ((Out.of_below HB.out).trans (O4.out.less (fun k hk => .inl hk)))
            rw [HACC.out, ← HW.out]
            exact M4.out.more (Below.refl _ _) (fun k hk => .inl (.inl hk))
        · obtain rfl : j = m := by omega
          have hbr := barrier_many hmm (i := 0) rfl r
          unfold ptr at hbr
          have HW := hide (show (d'.br r, d'.brCode r) = wipeL d r acc from by rw [← hwl.out, List.drop_of_length_le (by rw [HMM.out]; exact Nat.le_refl _)]; rfl)
          obtain ⟨c, hc⟩ : ∃ c, d'.brCode r = c := ⟨_, rfl⟩
          rw [hc] at hbr HW
          have O := hide ho
          clear hc hmm hwl hsm ho HC
          go_wp2_with (go_at_call 9; ((with_reducible refine hbr.mono ?_); rintro e w4 ⟨rfl, hm4, ho4⟩; have M4 := hide hm4; have O4 := hide (O.out.trans ho4); clear hm4 ho4 hbr))
          go_ret
          refine HSUM.out _ _ (by rw [HACC.out, ← HW.out]) ?_ ((Out.of_below HB.out).trans (O4.out.less (fun k hk => .inl hk)))
          rw [HACC.out, ← HW.out]
          exact M4.out.more (Below.refl _ _) (fun k hk => .inl (.inl hk))
end Go.Proofs.Ytlplibgcfhamgaa
