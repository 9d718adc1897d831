/-
  Package port: lay, rising.
-/
import Derived.Test.YthkocbfioegcnaaRw14
namespace Go.Proofs.Ythkocbfioegcnaa
open Go.RowKit
set_option maxRecDepth 20000
set_option linter.unusedSimpArgs false
set_option linter.unusedVariables false

theorem mine_say {w : World} {b n : Nat} {v : Value} {l : List UInt8} (h : Mine w b v l) (hn : l.length = n) : (Say.rd n l).p w v := by
  subst hn
  obtain ⟨A, c, rfl⟩ := h.form
  exact ⟨A, c, rfl, h.rd⟩
theorem grow_is {f : FuncId} {args : Array Value} {w : World} {u : Value} (h : Calls Try.prog f args w fun e w' => e = .returned u ∧ Below w.heap.size w w') : Calls Try.prog f args w fun e w' => ∃ v, e = .returned v ∧ (Say.is u).p w' v ∧ Below w.heap.size w w' := h.mono fun _ _ ⟨e, hb⟩ => ⟨u, e, rfl, hb⟩
theorem put_say (n : Nat) (w : World) : Calls Try.prog 20 #[.slice none 0 0, .int .i64 1, .int .u64 (n : Int)] w fun e w' => ∃ v, e = .returned v ∧ (Say.rd 1 [UInt8.ofNat n]).p w' v ∧ Below w.heap.size w w' :=
  (put_one (.slice none 0 0) [] n w (by simp) (Rd.nil_ _ _ _)).mono fun _ _ ⟨v, e, h, hb⟩ => ⟨v, e, mine_say h rfl, hb⟩
theorem text_say {v : Value} {l : List UInt8} {s : ByteArray} {w : World} (n : Nat) (hm : l.length ≤ 1000) (hs : s.size ≤ 255) (hn : l.length + 1 + s.size = n) (hv : Rd w v (u8s l)) : Calls Try.prog 30 #[v, .string s] w fun e w' => ∃ v', e = .returned v' ∧ (Say.rd n (l ++ UInt8.ofNat s.size :: s.data.toList)).p w' v' ∧ Below w.heap.size w w' :=
  (text_any v l s w (by omega) hs hv).mono fun _ _ ⟨v, e, h, hb⟩ => ⟨v, e, mine_say h (by rw [List.length_append, List.length_cons, size_list]; omega), hb⟩
section
variable {n : Nat} {k v : ByteArray} {w : World} {u : Value}
theorem text_L1 {A : Option Addr} {c : Nat} (h : k.size ≤ 15 ∧ v.size ≤ 21) (hv : Rd w (.slice A 1 c) (u8s [UInt8.ofNat n])) : Calls Try.prog 30 #[.slice A 1 c, .string k] w fun e w' => ∃ v', e = .returned v' ∧ (Say.rd (2 + k.size) ([UInt8.ofNat n] ++ UInt8.ofNat k.size :: k.data.toList)).p w' v' ∧ Below w.heap.size w w' :=
  text_say _ (by simp) (by omega) (by simp) hv
theorem text_L2 {A : Option Addr} {c m : Nat} (h : k.size ≤ 15 ∧ v.size ≤ 21) (hv : Rd w (.slice A m c) (u8s ([UInt8.ofNat n] ++ UInt8.ofNat k.size :: k.data.toList))) : Calls Try.prog 30 #[.slice A m c, .string v] w fun e w' => ∃ v', e = .returned v' ∧ (Say.rd (3 + k.size + v.size) (([UInt8.ofNat n] ++ UInt8.ofNat k.size :: k.data.toList) ++ UInt8.ofNat v.size :: v.data.toList)).p w' v' ∧ Below w.heap.size w w' :=
  text_say _ (by simp [size_list]; omega) (by omega) (by simp [size_list]; omega) hv
end
set_option maxHeartbeats 4000000 in
/-- One row's bytes. -/
theorem lay_any {x : Rw} {w : World} (h : okR x = true) : Calls Try.prog 21 #[.agg #[.int .i64 x.t, .string x.k, .string x.v]] w fun e w' => ∃ u, e = .returned u ∧ Rd w' u (u8s (rowL x)) ∧ Below w.heap.size w w' := by
  obtain ⟨z, k, v⟩ := x
  have h0 := okR_iff.1 h
  dsimp only at h0
  obtain ⟨h1, h2, h3, h4⟩ := h0
  obtain ⟨n, rfl⟩ : ∃ n : Nat, z = (n : Int) := ⟨z.toNat, by omega⟩
  have hn : (n : Int) < 4 := h2
  have hw9 : IntKind.u64.wrap (n : Int) = (n : Int) := by rw [IntKind.wrap_u64]; omega
  have HL : Hid (k.size ≤ 15 ∧ v.size ≤ 21) := hide ⟨h3, h4⟩
  have HE : Hid ((([UInt8.ofNat n] ++ UInt8.ofNat k.size :: k.data.toList) ++ UInt8.ofNat v.size :: v.data.toList) = rowL ⟨(n : Int), k, v⟩) := hide (by
    have e : ((n : Int) % 256).toNat = n := by omega
    simp [rowL, e])
  suffices hsuf : ∀ PP : Value → World → Prop, (∀ u W', Rd W' u (u8s (rowL ⟨(n : Int), k, v⟩)) → Below w.heap.size w W' → PP u W') → Calls Try.prog 21 #[.agg #[.int .i64 (n : Int), .string k, .string v]] w fun e W' => ∃ u, e = .returned u ∧ PP u W' from hsuf _ (fun _ _ h1 h2 => ⟨h1, h2⟩)
  intro PP hPP
  have HPP := hide hPP
  clear hPP h h3 h4
  go_enter Try.func21, Try.ntmps21
  go_wp2
  have S0 := hide ((Ow.start w).box 32 #[.int .i64 (n : Int), .string k, .string v])
  generalize hw5 : (w.alloc (.cells #[.int .i64 (n : Int), .string k, .string v] 32)) = w5 at *
  clear hw5
  have c0 := (S0.out.blk (i := 0) rfl).cell 0 _ rfl
  have c1 := (S0.out.blk (i := 0) rfl).cell 1 _ rfl
  have c2 := (S0.out.blk (i := 0) rfl).cell 2 _ rfl
  have HLT := hide (S0.out.blk (i := 0) rfl).lt
  refine region_grows [Say.is (.pointer (some ⟨w.heap.size, 0, none⟩)), Say.is (.int .i64 (n : Int)), Say.is (.int .u64 (n : Int)), Say.rd 1 ([UInt8.ofNat n]), Say.is (.pointer (some ⟨w.heap.size, 1, none⟩)), Say.is (.string k), Say.rd (2 + k.size) (([UInt8.ofNat n] ++ UInt8.ofNat k.size :: k.data.toList)), Say.is (.pointer (some ⟨w.heap.size, 2, none⟩)), Say.is (.string v), Say.rd (3 + k.size + v.size) ((([UInt8.ofNat n] ++ UInt8.ofNat k.size :: k.data.toList) ++ UInt8.ofNat v.size :: v.data.toList)), Say.rd (3 + k.size + v.size) ((([UInt8.ofNat n] ++ UInt8.ofNat k.size :: k.data.toList) ++ UInt8.ofNat v.size :: v.data.toList))] (by kernel_rfl) (by kernel_rfl) (by kernel_rfl) (by kernel_rfl) ?_ ?_
  · intro i o ho a w2 hb hsz old dep
    match i, ho with
    | 0, ho =>
      obtain rfl := Option.some.inj ho
      have o1 : a.tmps.getD 1 undef = _ := old 1 (by kernel_rfl)
      rw [if_pos (wanted_none rfl)]
      refine grow_same (v := .pointer (some ⟨w.heap.size, 0, none⟩)) ?_ rfl
      clear old dep ho hsz hb
      go_simp
    | 1, ho =>
      obtain rfl := Option.some.inj ho
      have d0 : a.tmps.getD 3 undef = .pointer (some ⟨w.heap.size, 0, none⟩) := dep 0 _ _ (by kernel_rfl) rfl rfl
      have e0 : a.tmps[3]?.getD undef = _ := (Array.getD_eq_getD_getElem? ..).symm.trans d0
      rw [if_pos (wanted_none rfl)]
      have g0 := (hb.cell (p := ⟨w.heap.size, 0, none⟩) HLT.out).trans c0
      refine grow_same (v := .int .i64 (n : Int)) ?_ rfl
      clear old dep ho hsz hb
      go_simp
    | 2, ho =>
      obtain rfl := Option.some.inj ho
      have d1 : a.tmps.getD 4 undef = .int .i64 (n : Int) := dep 1 _ _ (by kernel_rfl) rfl rfl
      have e1 : a.tmps[4]?.getD undef = _ := (Array.getD_eq_getD_getElem? ..).symm.trans d1
      rw [if_pos (wanted_none rfl)]
      refine grow_same (v := .int .u64 (n : Int)) ?_ rfl
      clear old dep ho hsz hb
      go_simp
    | 3, ho =>
      obtain rfl := Option.some.inj ho
      have d2 : a.tmps.getD 5 undef = .int .u64 (n : Int) := dep 2 _ _ (by kernel_rfl) rfl rfl
      have e2 : a.tmps[5]?.getD undef = _ := (Array.getD_eq_getD_getElem? ..).symm.trans d2
      rw [if_pos (wanted_none rfl)]
      refine grow_enters (f := 20) (args := #[.slice none 0 0, .int .i64 1, .int .u64 (n : Int)]) ?_ (put_say n _)
      clear old dep ho hsz hb
      go_simp
    | 4, ho =>
      obtain rfl := Option.some.inj ho
      have o1 : a.tmps.getD 1 undef = _ := old 1 (by kernel_rfl)
      rw [if_pos (wanted_none rfl)]
      refine grow_same (v := .pointer (some ⟨w.heap.size, 1, none⟩)) ?_ rfl
      clear old dep ho hsz hb
      go_simp
    | 5, ho =>
      obtain rfl := Option.some.inj ho
      have d4 : a.tmps.getD 7 undef = .pointer (some ⟨w.heap.size, 1, none⟩) := dep 4 _ _ (by kernel_rfl) rfl rfl
      have e4 : a.tmps[7]?.getD undef = _ := (Array.getD_eq_getD_getElem? ..).symm.trans d4
      rw [if_pos (wanted_none rfl)]
      have g0 := (hb.cell (p := ⟨w.heap.size, 1, none⟩) HLT.out).trans c1
      refine grow_same (v := .string k) ?_ rfl
      clear old dep ho hsz hb
      go_simp
    | 6, ho =>
      obtain rfl := Option.some.inj ho
      obtain ⟨A3, C3, d3, r3⟩ : ∃ A c, a.tmps.getD 6 undef = .slice A 1 c ∧ Rd w2 (.slice A 1 c) (u8s ([UInt8.ofNat n])) := dep 3 _ _ (by kernel_rfl) rfl rfl
      have e3 : a.tmps[6]?.getD undef = _ := (Array.getD_eq_getD_getElem? ..).symm.trans d3
      have d5 : a.tmps.getD 8 undef = .string k := dep 5 _ _ (by kernel_rfl) rfl rfl
      have e5 : a.tmps[8]?.getD undef = _ := (Array.getD_eq_getD_getElem? ..).symm.trans d5
      rw [if_pos (wanted_none rfl)]
      refine grow_enters (f := 30) (args := #[.slice A3 1 C3, .string k]) ?_ (text_L1 HL.out r3)
      clear old dep ho hsz hb
      go_simp
    | 7, ho =>
      obtain rfl := Option.some.inj ho
      have o1 : a.tmps.getD 1 undef = _ := old 1 (by kernel_rfl)
      rw [if_pos (wanted_none rfl)]
      refine grow_same (v := .pointer (some ⟨w.heap.size, 2, none⟩)) ?_ rfl
      clear old dep ho hsz hb
      go_simp
    | 8, ho =>
      obtain rfl := Option.some.inj ho
      have d7 : a.tmps.getD 10 undef = .pointer (some ⟨w.heap.size, 2, none⟩) := dep 7 _ _ (by kernel_rfl) rfl rfl
      have e7 : a.tmps[10]?.getD undef = _ := (Array.getD_eq_getD_getElem? ..).symm.trans d7
      rw [if_pos (wanted_none rfl)]
      have g0 := (hb.cell (p := ⟨w.heap.size, 2, none⟩) HLT.out).trans c2
      refine grow_same (v := .string v) ?_ rfl
      clear old dep ho hsz hb
      go_simp
    | 9, ho =>
      obtain rfl := Option.some.inj ho
      obtain ⟨A6, C6, d6, r6⟩ : ∃ A c, a.tmps.getD 9 undef = .slice A (2 + k.size) c ∧ Rd w2 (.slice A (2 + k.size) c) (u8s (([UInt8.ofNat n] ++ UInt8.ofNat k.size :: k.data.toList))) := dep 6 _ _ (by kernel_rfl) rfl rfl
      have e6 : a.tmps[9]?.getD undef = _ := (Array.getD_eq_getD_getElem? ..).symm.trans d6
      have d8 : a.tmps.getD 11 undef = .string v := dep 8 _ _ (by kernel_rfl) rfl rfl
      have e8 : a.tmps[11]?.getD undef = _ := (Array.getD_eq_getD_getElem? ..).symm.trans d8
      rw [if_pos (wanted_none rfl)]
      refine grow_enters (f := 30) (args := #[.slice A6 (2 + k.size) C6, .string v]) ?_ (text_L2 HL.out r6)
      clear old dep ho hsz hb
      go_simp
    | 10, ho =>
      obtain rfl := Option.some.inj ho
      obtain ⟨A9, C9, d9, r9⟩ : ∃ A c, a.tmps.getD 12 undef = .slice A (3 + k.size + v.size) c ∧ Rd w2 (.slice A (3 + k.size + v.size) c) (u8s ((([UInt8.ofNat n] ++ UInt8.ofNat k.size :: k.data.toList) ++ UInt8.ofNat v.size :: v.data.toList))) := dep 9 _ _ (by kernel_rfl) rfl rfl
      have e9 : a.tmps[12]?.getD undef = _ := (Array.getD_eq_getD_getElem? ..).symm.trans d9
      rw [if_pos (wanted_none rfl)]
      refine grow_same (v := .slice A9 (3 + k.size + v.size) C9) ?_ ⟨_, _, rfl, r9⟩
      clear old dep ho hsz hb r9
      go_simp
    | i + 11, ho => exact absurd ho (by simp)
  · intro a w6 hb hsz hdf fin keep
    obtain ⟨tm, df⟩ := a
    have hx := frame_of [3, 4, 5, 6, 7, 8, 9, 10, 11, 12, 2] (by kernel_rfl) hsz keep
    dsimp only at hdf hx
    simp only [List.foldl_cons, List.foldl_nil] at hx
    subst hdf
    clear hsz keep
    have kn : tm.getD 3 undef = .pointer (some ⟨w.heap.size, 0, none⟩) := fin 0 _ _ rfl rfl
    rw [kn] at hx
    clear kn
    have kn : tm.getD 4 undef = .int .i64 (n : Int) := fin 1 _ _ rfl rfl
    rw [kn] at hx
    clear kn
    have kn : tm.getD 5 undef = .int .u64 (n : Int) := fin 2 _ _ rfl rfl
    rw [kn] at hx
    clear kn
    obtain ⟨A6, C6, kn, R6⟩ : ∃ A c, tm.getD 6 undef = .slice A 1 c ∧ Rd w6 (.slice A 1 c) (u8s ([UInt8.ofNat n])) := fin 3 _ _ rfl rfl
    rw [kn] at hx
    clear kn
    clear R6
    have kn : tm.getD 7 undef = .pointer (some ⟨w.heap.size, 1, none⟩) := fin 4 _ _ rfl rfl
    rw [kn] at hx
    clear kn
    have kn : tm.getD 8 undef = .string k := fin 5 _ _ rfl rfl
    rw [kn] at hx
    clear kn
    obtain ⟨A9, C9, kn, R9⟩ : ∃ A c, tm.getD 9 undef = .slice A (2 + k.size) c ∧ Rd w6 (.slice A (2 + k.size) c) (u8s (([UInt8.ofNat n] ++ UInt8.ofNat k.size :: k.data.toList))) := fin 6 _ _ rfl rfl
    rw [kn] at hx
    clear kn
    clear R9
    have kn : tm.getD 10 undef = .pointer (some ⟨w.heap.size, 2, none⟩) := fin 7 _ _ rfl rfl
    rw [kn] at hx
    clear kn
    have kn : tm.getD 11 undef = .string v := fin 8 _ _ rfl rfl
    rw [kn] at hx
    clear kn
    obtain ⟨A12, C12, kn, R12⟩ : ∃ A c, tm.getD 12 undef = .slice A (3 + k.size + v.size) c ∧ Rd w6 (.slice A (3 + k.size + v.size) c) (u8s ((([UInt8.ofNat n] ++ UInt8.ofNat k.size :: k.data.toList) ++ UInt8.ofNat v.size :: v.data.toList))) := fin 9 _ _ rfl rfl
    rw [kn] at hx
    clear kn
    clear R12
    obtain ⟨A2, C2, kn, R2⟩ : ∃ A c, tm.getD 2 undef = .slice A (3 + k.size + v.size) c ∧ Rd w6 (.slice A (3 + k.size + v.size) c) (u8s ((([UInt8.ofNat n] ++ UInt8.ofNat k.size :: k.data.toList) ++ UInt8.ofNat v.size :: v.data.toList))) := fin 10 _ _ rfl rfl
    rw [kn] at hx
    clear kn
    clear fin
    simp only [List.setIfInBounds_toArray, List.set_cons_succ, List.set_cons_zero] at hx
    subst hx
    go_wp2
    go_ret
    refine ⟨_, rfl, HPP.out _ _ ?_ (S0.out.below hb).bel⟩
    rw [← HE.out]
    exact R2
set_option maxHeartbeats 8000000 in
/-- Do rows rise? -/
theorem prising_any {w : World} {v : Value} {l : List Rw} (hv : Rws w v l) (hl : l.length ≤ 70000) : Calls Try.prog 19 #[v] w fun e w' => e = .returned (.bool (risB l)) ∧ Below w.heap.size w w' := by
  obtain ⟨A, c, rfl⟩ := hv.form
  have HV := hide hv
  have hl1 : (l.length : Int) ≤ 70000 := by omega
  clear hv
  go_enter Try.func19, Try.ntmps19
  go_wp2
  go_loopw [7] (fun i wr => ∃ j : Nat, j ≤ l.length ∧ i = .int .i64 j ∧ Hid (Below w.heap.size w wr) ∧ Hid (Ris (l.take j))) (fun i _ => l.length - (intOf i).toNat)
  case atStart => exact ⟨0, by omega, rfl, hide (Below.refl _ _), hide Ris.nil⟩
  case round =>
    obtain ⟨j, hj, rfl, hbl, ha⟩ := hrel
    by_cases hlt : j < l.length
    · obtain ⟨x, hc⟩ : ∃ x, l[j]? = some x := ⟨_, List.getElem?_eq_getElem hlt⟩
      obtain ⟨b, o, rfl, i0, i1, i2⟩ := HV.out.at_ hbl.out hc
      have q0 : (0 : Int) ≤ (j : Int) := by omega
      have q1 : (j : Int) < (l.length : Int) := by omega
      have HTK : Hid (l.take (j + 1) = l.take j ++ [x]) := hide (by rw [List.take_add_one, hc]; rfl)
      have S0 := hide (((Ow.start w).below hbl.out).box 32 #[.int .i64 x.t, .string x.k, .string x.v])
      have HRT := hide (fun w => (row_right_any x.t x.k x.v w))
      have HC := hide hc
      clear hc
      go_upto_region 4 with (fail)
      generalize hw5 : (wr.alloc (.cells #[.int .i64 x.t, .string x.k, .string x.v] 32)) = w5 at *
      clear hw5
      have c0 := (S0.out.blk (i := 0) rfl).cell 0 _ rfl
      have c1 := (S0.out.blk (i := 0) rfl).cell 1 _ rfl
      have c2 := (S0.out.blk (i := 0) rfl).cell 2 _ rfl
      have HLT := hide (S0.out.blk (i := 0) rfl).lt
      cases hok : rowOkB x.t x.k x.v
      · have HNO : Hid (¬ Ris l) := hide (fun h => by have := h.ok x (List.mem_of_getElem? HC.out); unfold okR at this; rw [hok] at this; cases this)
        rw [hok] at HRT
        clear i0 i1 i2
        refine region_grows [Say.is (.agg #[.int .i64 x.t, .string x.k, .string x.v]), Say.is (.bool false), Say.is (.bool true), Say.is (.bool true), Say.is (undef), Say.is (undef), Say.is (undef), Say.is (undef), Say.is (undef), Say.is (undef), Say.is (undef), Say.is (undef), Say.is (undef), Say.is (undef), Say.is (undef), Say.is (undef), Say.is (.bool true)] (by kernel_rfl) (by kernel_rfl) (by kernel_rfl) (by kernel_rfl) ?_ ?_
        · intro i o ho a w2 hb hsz old dep
          match i, ho with
          | 0, ho =>
            obtain rfl := Option.some.inj ho
            have o4 : a.tmps.getD 4 undef = _ := old 4 (by kernel_rfl)
            rw [if_pos (wanted_none rfl)]
            have g0 := (hb.cell (p := ⟨wr.heap.size, 0, none⟩) HLT.out).trans c0
            have g1 := (hb.cell (p := ⟨wr.heap.size, 1, none⟩) HLT.out).trans c1
            have g2 := (hb.cell (p := ⟨wr.heap.size, 2, none⟩) HLT.out).trans c2
            refine grow_same (v := .agg #[.int .i64 x.t, .string x.k, .string x.v]) ?_ rfl
            clear old dep ho hsz hb
            go_simp
          | 1, ho =>
            obtain rfl := Option.some.inj ho
            have d0 : a.tmps.getD 12 undef = .agg #[.int .i64 x.t, .string x.k, .string x.v] := dep 0 _ _ (by kernel_rfl) rfl rfl
            have e0 : a.tmps[12]?.getD undef = _ := (Array.getD_eq_getD_getElem? ..).symm.trans d0
            rw [if_pos (wanted_none rfl)]
            refine grow_enters (f := 27) (args := #[.agg #[.int .i64 x.t, .string x.k, .string x.v]]) ?_ (grow_is (HRT.out _))
            clear old dep ho hsz hb
            go_simp
          | 2, ho =>
            obtain rfl := Option.some.inj ho
            have d1 : a.tmps.getD 13 undef = .bool false := dep 1 _ _ (by kernel_rfl) rfl rfl
            have e1 : a.tmps[13]?.getD undef = _ := (Array.getD_eq_getD_getElem? ..).symm.trans d1
            rw [if_pos (wanted_none rfl)]
            refine grow_same (v := .bool true) ?_ rfl
            clear old dep ho hsz hb
            go_simp
          | 3, ho =>
            obtain rfl := Option.some.inj ho
            have d2 : a.tmps.getD 14 undef = .bool true := dep 2 _ _ (by kernel_rfl) rfl rfl
            have e2 : a.tmps[14]?.getD undef = _ := (Array.getD_eq_getD_getElem? ..).symm.trans d2
            rw [if_pos (wanted_none rfl)]
            refine grow_same (v := .bool true) ?_ rfl
            clear old dep ho hsz hb
            go_simp
          | 4, ho =>
            obtain rfl := Option.some.inj ho
            have d3 : a.tmps.getD 15 undef = .bool true := dep 3 _ _ (by kernel_rfl) rfl rfl
            have e3 : a.tmps[15]?.getD undef = _ := (Array.getD_eq_getD_getElem? ..).symm.trans d3
            rw [if_neg (wanted_not rfl rfl rfl (by rw [hsz]; exact of_decide_eq_true rfl) d3 rfl)]
            exact rfl
          | 5, ho =>
            obtain rfl := Option.some.inj ho
            have d3 : a.tmps.getD 15 undef = .bool true := dep 3 _ _ (by kernel_rfl) rfl rfl
            have e3 : a.tmps[15]?.getD undef = _ := (Array.getD_eq_getD_getElem? ..).symm.trans d3
            rw [if_neg (wanted_not rfl rfl rfl (by rw [hsz]; exact of_decide_eq_true rfl) d3 rfl)]
            exact rfl
          | 6, ho =>
            obtain rfl := Option.some.inj ho
            have d3 : a.tmps.getD 15 undef = .bool true := dep 3 _ _ (by kernel_rfl) rfl rfl
            have e3 : a.tmps[15]?.getD undef = _ := (Array.getD_eq_getD_getElem? ..).symm.trans d3
            rw [if_neg (wanted_not rfl rfl rfl (by rw [hsz]; exact of_decide_eq_true rfl) d3 rfl)]
            exact rfl
          | 7, ho =>
            obtain rfl := Option.some.inj ho
            have d6 : a.tmps.getD 18 undef = undef := dep 6 _ _ (by kernel_rfl) rfl rfl
            have e6 : a.tmps[18]?.getD undef = _ := (Array.getD_eq_getD_getElem? ..).symm.trans d6
            rw [if_neg (wanted_undef rfl rfl rfl (by rw [hsz]; exact of_decide_eq_true rfl) d6)]
            exact rfl
          | 8, ho =>
            obtain rfl := Option.some.inj ho
            have d6 : a.tmps.getD 18 undef = undef := dep 6 _ _ (by kernel_rfl) rfl rfl
            have e6 : a.tmps[18]?.getD undef = _ := (Array.getD_eq_getD_getElem? ..).symm.trans d6
            rw [if_neg (wanted_undef rfl rfl rfl (by rw [hsz]; exact of_decide_eq_true rfl) d6)]
            exact rfl
          | 9, ho =>
            obtain rfl := Option.some.inj ho
            have d6 : a.tmps.getD 18 undef = undef := dep 6 _ _ (by kernel_rfl) rfl rfl
            have e6 : a.tmps[18]?.getD undef = _ := (Array.getD_eq_getD_getElem? ..).symm.trans d6
            rw [if_neg (wanted_undef rfl rfl rfl (by rw [hsz]; exact of_decide_eq_true rfl) d6)]
            exact rfl
          | 10, ho =>
            obtain rfl := Option.some.inj ho
            have d6 : a.tmps.getD 18 undef = undef := dep 6 _ _ (by kernel_rfl) rfl rfl
            have e6 : a.tmps[18]?.getD undef = _ := (Array.getD_eq_getD_getElem? ..).symm.trans d6
            rw [if_neg (wanted_undef rfl rfl rfl (by rw [hsz]; exact of_decide_eq_true rfl) d6)]
            exact rfl
          | 11, ho =>
            obtain rfl := Option.some.inj ho
            have d6 : a.tmps.getD 18 undef = undef := dep 6 _ _ (by kernel_rfl) rfl rfl
            have e6 : a.tmps[18]?.getD undef = _ := (Array.getD_eq_getD_getElem? ..).symm.trans d6
            rw [if_neg (wanted_undef rfl rfl rfl (by rw [hsz]; exact of_decide_eq_true rfl) d6)]
            exact rfl
          | 12, ho =>
            obtain rfl := Option.some.inj ho
            have d6 : a.tmps.getD 18 undef = undef := dep 6 _ _ (by kernel_rfl) rfl rfl
            have e6 : a.tmps[18]?.getD undef = _ := (Array.getD_eq_getD_getElem? ..).symm.trans d6
            rw [if_neg (wanted_undef rfl rfl rfl (by rw [hsz]; exact of_decide_eq_true rfl) d6)]
            exact rfl
          | 13, ho =>
            obtain rfl := Option.some.inj ho
            have d6 : a.tmps.getD 18 undef = undef := dep 6 _ _ (by kernel_rfl) rfl rfl
            have e6 : a.tmps[18]?.getD undef = _ := (Array.getD_eq_getD_getElem? ..).symm.trans d6
            rw [if_neg (wanted_undef rfl rfl rfl (by rw [hsz]; exact of_decide_eq_true rfl) d6)]
            exact rfl
          | 14, ho =>
            obtain rfl := Option.some.inj ho
            have d6 : a.tmps.getD 18 undef = undef := dep 6 _ _ (by kernel_rfl) rfl rfl
            have e6 : a.tmps[18]?.getD undef = _ := (Array.getD_eq_getD_getElem? ..).symm.trans d6
            rw [if_neg (wanted_undef rfl rfl rfl (by rw [hsz]; exact of_decide_eq_true rfl) d6)]
            exact rfl
          | 15, ho =>
            obtain rfl := Option.some.inj ho
            have d3 : a.tmps.getD 15 undef = .bool true := dep 3 _ _ (by kernel_rfl) rfl rfl
            have e3 : a.tmps[15]?.getD undef = _ := (Array.getD_eq_getD_getElem? ..).symm.trans d3
            rw [if_neg (wanted_not rfl rfl rfl (by rw [hsz]; exact of_decide_eq_true rfl) d3 rfl)]
            exact rfl
          | 16, ho =>
            obtain rfl := Option.some.inj ho
            have d3 : a.tmps.getD 15 undef = .bool true := dep 3 _ _ (by kernel_rfl) rfl rfl
            have e3 : a.tmps[15]?.getD undef = _ := (Array.getD_eq_getD_getElem? ..).symm.trans d3
            have d15 : a.tmps.getD 27 undef = undef := dep 15 _ _ (by kernel_rfl) rfl rfl
            have e15 : a.tmps[27]?.getD undef = _ := (Array.getD_eq_getD_getElem? ..).symm.trans d15
            rw [if_pos (wanted_none rfl)]
            refine grow_same (v := .bool true) ?_ rfl
            clear old dep ho hsz hb
            go_simp
          | i + 17, ho => exact absurd ho (by simp)
        · intro a w6 hb hsz hdf fin keep
          obtain ⟨tm, df⟩ := a
          have hx := frame_of [12, 13, 14, 15, 16, 17, 18, 19, 20, 21, 22, 23, 24, 25, 26, 27, 28] (by kernel_rfl) hsz keep
          dsimp only at hdf hx
          simp only [List.foldl_cons, List.foldl_nil] at hx
          subst hdf
          clear hsz keep
          have kn : tm.getD 12 undef = .agg #[.int .i64 x.t, .string x.k, .string x.v] := fin 0 _ _ rfl rfl
          rw [kn] at hx
          clear kn
          have kn : tm.getD 13 undef = .bool false := fin 1 _ _ rfl rfl
          rw [kn] at hx
          clear kn
          have kn : tm.getD 14 undef = .bool true := fin 2 _ _ rfl rfl
          rw [kn] at hx
          clear kn
          have kn : tm.getD 15 undef = .bool true := fin 3 _ _ rfl rfl
          rw [kn] at hx
          clear kn
          have kn : tm.getD 16 undef = undef := fin 4 _ _ rfl rfl
          rw [kn] at hx
          clear kn
          have kn : tm.getD 17 undef = undef := fin 5 _ _ rfl rfl
          rw [kn] at hx
          clear kn
          have kn : tm.getD 18 undef = undef := fin 6 _ _ rfl rfl
          rw [kn] at hx
          clear kn
          have kn : tm.getD 19 undef = undef := fin 7 _ _ rfl rfl
          rw [kn] at hx
          clear kn
          have kn : tm.getD 20 undef = undef := fin 8 _ _ rfl rfl
          rw [kn] at hx
          clear kn
          have kn : tm.getD 21 undef = undef := fin 9 _ _ rfl rfl
          rw [kn] at hx
          clear kn
          have kn : tm.getD 22 undef = undef := fin 10 _ _ rfl rfl
          rw [kn] at hx
          clear kn
          have kn : tm.getD 23 undef = undef := fin 11 _ _ rfl rfl
          rw [kn] at hx
          clear kn
          have kn : tm.getD 24 undef = undef := fin 12 _ _ rfl rfl
          rw [kn] at hx
          clear kn
          have kn : tm.getD 25 undef = undef := fin 13 _ _ rfl rfl
          rw [kn] at hx
          clear kn
          have kn : tm.getD 26 undef = undef := fin 14 _ _ rfl rfl
          rw [kn] at hx
          clear kn
          have kn : tm.getD 27 undef = undef := fin 15 _ _ rfl rfl
          rw [kn] at hx
          clear kn
          have kn : tm.getD 28 undef = .bool true := fin 16 _ _ rfl rfl
          rw [kn] at hx
          clear kn
          clear fin
          simp only [List.setIfInBounds_toArray, List.set_cons_succ, List.set_cons_zero] at hx
          subst hx
          go_wp2
          go_ret
          rw [risB_no HNO.out]
          exact ⟨rfl, (S0.out.below hb).bel⟩
      · rw [hok] at HRT
        rcases Nat.eq_zero_or_pos j with rfl | hpos
        · have HYES : Hid (Ris (l.take 0) ∧ okR x = true ∧ ∀ y, (l.take 0).getLast? = some y → lessR y x = true) := hide ⟨ha.out, hok, fun y hy => by rw [List.take_zero] at hy; cases hy⟩
          clear i0 i1 i2
          refine region_grows [Say.is (.agg #[.int .i64 x.t, .string x.k, .string x.v]), Say.is (.bool true), Say.is (.bool false), Say.is (.bool false), Say.is (.int .i64 0), Say.is (.bool false), Say.is (.bool false), Say.is (undef), Say.is (undef), Say.is (undef), Say.is (undef), Say.is (undef), Say.is (undef), Say.is (undef), Say.is (undef), Say.is (.bool false), Say.is (.bool false)] (by kernel_rfl) (by kernel_rfl) (by kernel_rfl) (by kernel_rfl) ?_ ?_
          · intro i o ho a w2 hb hsz old dep
            match i, ho with
            | 0, ho =>
              obtain rfl := Option.some.inj ho
              have o4 : a.tmps.getD 4 undef = _ := old 4 (by kernel_rfl)
              rw [if_pos (wanted_none rfl)]
              have g0 := (hb.cell (p := ⟨wr.heap.size, 0, none⟩) HLT.out).trans c0
              have g1 := (hb.cell (p := ⟨wr.heap.size, 1, none⟩) HLT.out).trans c1
              have g2 := (hb.cell (p := ⟨wr.heap.size, 2, none⟩) HLT.out).trans c2
              refine grow_same (v := .agg #[.int .i64 x.t, .string x.k, .string x.v]) ?_ rfl
              clear old dep ho hsz hb
              go_simp
            | 1, ho =>
              obtain rfl := Option.some.inj ho
              have d0 : a.tmps.getD 12 undef = .agg #[.int .i64 x.t, .string x.k, .string x.v] := dep 0 _ _ (by kernel_rfl) rfl rfl
              have e0 : a.tmps[12]?.getD undef = _ := (Array.getD_eq_getD_getElem? ..).symm.trans d0
              rw [if_pos (wanted_none rfl)]
              refine grow_enters (f := 27) (args := #[.agg #[.int .i64 x.t, .string x.k, .string x.v]]) ?_ (grow_is (HRT.out _))
              clear old dep ho hsz hb
              go_simp
            | 2, ho =>
              obtain rfl := Option.some.inj ho
              have d1 : a.tmps.getD 13 undef = .bool true := dep 1 _ _ (by kernel_rfl) rfl rfl
              have e1 : a.tmps[13]?.getD undef = _ := (Array.getD_eq_getD_getElem? ..).symm.trans d1
              rw [if_pos (wanted_none rfl)]
              refine grow_same (v := .bool false) ?_ rfl
              clear old dep ho hsz hb
              go_simp
            | 3, ho =>
              obtain rfl := Option.some.inj ho
              have d2 : a.tmps.getD 14 undef = .bool false := dep 2 _ _ (by kernel_rfl) rfl rfl
              have e2 : a.tmps[14]?.getD undef = _ := (Array.getD_eq_getD_getElem? ..).symm.trans d2
              rw [if_pos (wanted_none rfl)]
              refine grow_same (v := .bool false) ?_ rfl
              clear old dep ho hsz hb
              go_simp
            | 4, ho =>
              obtain rfl := Option.some.inj ho
              have o3 : a.tmps.getD 3 undef = _ := old 3 (by kernel_rfl)
              have d3 : a.tmps.getD 15 undef = .bool false := dep 3 _ _ (by kernel_rfl) rfl rfl
              have e3 : a.tmps[15]?.getD undef = _ := (Array.getD_eq_getD_getElem? ..).symm.trans d3
              rw [if_pos (wanted_some rfl rfl rfl (by rw [hsz]; exact of_decide_eq_true rfl) d3)]
              refine grow_same (v := .int .i64 0) ?_ rfl
              clear old dep ho hsz hb
              go_simp
            | 5, ho =>
              obtain rfl := Option.some.inj ho
              have d4 : a.tmps.getD 16 undef = .int .i64 0 := dep 4 _ _ (by kernel_rfl) rfl rfl
              have e4 : a.tmps[16]?.getD undef = _ := (Array.getD_eq_getD_getElem? ..).symm.trans d4
              have d3 : a.tmps.getD 15 undef = .bool false := dep 3 _ _ (by kernel_rfl) rfl rfl
              have e3 : a.tmps[15]?.getD undef = _ := (Array.getD_eq_getD_getElem? ..).symm.trans d3
              rw [if_pos (wanted_some rfl rfl rfl (by rw [hsz]; exact of_decide_eq_true rfl) d3)]
              refine grow_same (v := .bool false) ?_ rfl
              clear old dep ho hsz hb
              go_simp
            | 6, ho =>
              obtain rfl := Option.some.inj ho
              have d5 : a.tmps.getD 17 undef = .bool false := dep 5 _ _ (by kernel_rfl) rfl rfl
              have e5 : a.tmps[17]?.getD undef = _ := (Array.getD_eq_getD_getElem? ..).symm.trans d5
              have d3 : a.tmps.getD 15 undef = .bool false := dep 3 _ _ (by kernel_rfl) rfl rfl
              have e3 : a.tmps[15]?.getD undef = _ := (Array.getD_eq_getD_getElem? ..).symm.trans d3
              rw [if_pos (wanted_some rfl rfl rfl (by rw [hsz]; exact of_decide_eq_true rfl) d3)]
              refine grow_same (v := .bool false) ?_ rfl
              clear old dep ho hsz hb
              go_simp
            | 7, ho =>
              obtain rfl := Option.some.inj ho
              have d6 : a.tmps.getD 18 undef = .bool false := dep 6 _ _ (by kernel_rfl) rfl rfl
              have e6 : a.tmps[18]?.getD undef = _ := (Array.getD_eq_getD_getElem? ..).symm.trans d6
              rw [if_neg (wanted_not rfl rfl rfl (by rw [hsz]; exact of_decide_eq_true rfl) d6 rfl)]
              exact rfl
            | 8, ho =>
              obtain rfl := Option.some.inj ho
              have d6 : a.tmps.getD 18 undef = .bool false := dep 6 _ _ (by kernel_rfl) rfl rfl
              have e6 : a.tmps[18]?.getD undef = _ := (Array.getD_eq_getD_getElem? ..).symm.trans d6
              rw [if_neg (wanted_not rfl rfl rfl (by rw [hsz]; exact of_decide_eq_true rfl) d6 rfl)]
              exact rfl
            | 9, ho =>
              obtain rfl := Option.some.inj ho
              have d6 : a.tmps.getD 18 undef = .bool false := dep 6 _ _ (by kernel_rfl) rfl rfl
              have e6 : a.tmps[18]?.getD undef = _ := (Array.getD_eq_getD_getElem? ..).symm.trans d6
              rw [if_neg (wanted_not rfl rfl rfl (by rw [hsz]; exact of_decide_eq_true rfl) d6 rfl)]
              exact rfl
            | 10, ho =>
              obtain rfl := Option.some.inj ho
              have d6 : a.tmps.getD 18 undef = .bool false := dep 6 _ _ (by kernel_rfl) rfl rfl
              have e6 : a.tmps[18]?.getD undef = _ := (Array.getD_eq_getD_getElem? ..).symm.trans d6
              rw [if_neg (wanted_not rfl rfl rfl (by rw [hsz]; exact of_decide_eq_true rfl) d6 rfl)]
              exact rfl
            | 11, ho =>
              obtain rfl := Option.some.inj ho
              have d6 : a.tmps.getD 18 undef = .bool false := dep 6 _ _ (by kernel_rfl) rfl rfl
              have e6 : a.tmps[18]?.getD undef = _ := (Array.getD_eq_getD_getElem? ..).symm.trans d6
              rw [if_neg (wanted_not rfl rfl rfl (by rw [hsz]; exact of_decide_eq_true rfl) d6 rfl)]
              exact rfl
            | 12, ho =>
              obtain rfl := Option.some.inj ho
              have d6 : a.tmps.getD 18 undef = .bool false := dep 6 _ _ (by kernel_rfl) rfl rfl
              have e6 : a.tmps[18]?.getD undef = _ := (Array.getD_eq_getD_getElem? ..).symm.trans d6
              rw [if_neg (wanted_not rfl rfl rfl (by rw [hsz]; exact of_decide_eq_true rfl) d6 rfl)]
              exact rfl
            | 13, ho =>
              obtain rfl := Option.some.inj ho
              have d6 : a.tmps.getD 18 undef = .bool false := dep 6 _ _ (by kernel_rfl) rfl rfl
              have e6 : a.tmps[18]?.getD undef = _ := (Array.getD_eq_getD_getElem? ..).symm.trans d6
              rw [if_neg (wanted_not rfl rfl rfl (by rw [hsz]; exact of_decide_eq_true rfl) d6 rfl)]
              exact rfl
            | 14, ho =>
              obtain rfl := Option.some.inj ho
              have d6 : a.tmps.getD 18 undef = .bool false := dep 6 _ _ (by kernel_rfl) rfl rfl
              have e6 : a.tmps[18]?.getD undef = _ := (Array.getD_eq_getD_getElem? ..).symm.trans d6
              rw [if_neg (wanted_not rfl rfl rfl (by rw [hsz]; exact of_decide_eq_true rfl) d6 rfl)]
              exact rfl
            | 15, ho =>
              obtain rfl := Option.some.inj ho
              have d6 : a.tmps.getD 18 undef = .bool false := dep 6 _ _ (by kernel_rfl) rfl rfl
              have e6 : a.tmps[18]?.getD undef = _ := (Array.getD_eq_getD_getElem? ..).symm.trans d6
              have d14 : a.tmps.getD 26 undef = undef := dep 14 _ _ (by kernel_rfl) rfl rfl
              have e14 : a.tmps[26]?.getD undef = _ := (Array.getD_eq_getD_getElem? ..).symm.trans d14
              have d3 : a.tmps.getD 15 undef = .bool false := dep 3 _ _ (by kernel_rfl) rfl rfl
              have e3 : a.tmps[15]?.getD undef = _ := (Array.getD_eq_getD_getElem? ..).symm.trans d3
              rw [if_pos (wanted_some rfl rfl rfl (by rw [hsz]; exact of_decide_eq_true rfl) d3)]
              refine grow_same (v := .bool false) ?_ rfl
              clear old dep ho hsz hb
              go_simp
            | 16, ho =>
              obtain rfl := Option.some.inj ho
              have d3 : a.tmps.getD 15 undef = .bool false := dep 3 _ _ (by kernel_rfl) rfl rfl
              have e3 : a.tmps[15]?.getD undef = _ := (Array.getD_eq_getD_getElem? ..).symm.trans d3
              have d15 : a.tmps.getD 27 undef = .bool false := dep 15 _ _ (by kernel_rfl) rfl rfl
              have e15 : a.tmps[27]?.getD undef = _ := (Array.getD_eq_getD_getElem? ..).symm.trans d15
              rw [if_pos (wanted_none rfl)]
              refine grow_same (v := .bool false) ?_ rfl
              clear old dep ho hsz hb
              go_simp
            | i + 17, ho => exact absurd ho (by simp)
          · intro a w6 hb hsz hdf fin keep
            obtain ⟨tm, df⟩ := a
            have hx := frame_of [12, 13, 14, 15, 16, 17, 18, 19, 20, 21, 22, 23, 24, 25, 26, 27, 28] (by kernel_rfl) hsz keep
            dsimp only at hdf hx
            simp only [List.foldl_cons, List.foldl_nil] at hx
            subst hdf
            clear hsz keep
            have kn : tm.getD 12 undef = .agg #[.int .i64 x.t, .string x.k, .string x.v] := fin 0 _ _ rfl rfl
            rw [kn] at hx
            clear kn
            have kn : tm.getD 13 undef = .bool true := fin 1 _ _ rfl rfl
            rw [kn] at hx
            clear kn
            have kn : tm.getD 14 undef = .bool false := fin 2 _ _ rfl rfl
            rw [kn] at hx
            clear kn
            have kn : tm.getD 15 undef = .bool false := fin 3 _ _ rfl rfl
            rw [kn] at hx
            clear kn
            have kn : tm.getD 16 undef = .int .i64 0 := fin 4 _ _ rfl rfl
            rw [kn] at hx
            clear kn
            have kn : tm.getD 17 undef = .bool false := fin 5 _ _ rfl rfl
            rw [kn] at hx
            clear kn
            have kn : tm.getD 18 undef = .bool false := fin 6 _ _ rfl rfl
            rw [kn] at hx
            clear kn
            have kn : tm.getD 19 undef = undef := fin 7 _ _ rfl rfl
            rw [kn] at hx
            clear kn
            have kn : tm.getD 20 undef = undef := fin 8 _ _ rfl rfl
            rw [kn] at hx
            clear kn
            have kn : tm.getD 21 undef = undef := fin 9 _ _ rfl rfl
            rw [kn] at hx
            clear kn
            have kn : tm.getD 22 undef = undef := fin 10 _ _ rfl rfl
            rw [kn] at hx
            clear kn
            have kn : tm.getD 23 undef = undef := fin 11 _ _ rfl rfl
            rw [kn] at hx
            clear kn
            have kn : tm.getD 24 undef = undef := fin 12 _ _ rfl rfl
            rw [kn] at hx
            clear kn
            have kn : tm.getD 25 undef = undef := fin 13 _ _ rfl rfl
            rw [kn] at hx
            clear kn
            have kn : tm.getD 26 undef = undef := fin 14 _ _ rfl rfl
            rw [kn] at hx
            clear kn
            have kn : tm.getD 27 undef = .bool false := fin 15 _ _ rfl rfl
            rw [kn] at hx
            clear kn
            have kn : tm.getD 28 undef = .bool false := fin 16 _ _ rfl rfl
            rw [kn] at hx
            clear kn
            clear fin
            simp only [List.setIfInBounds_toArray, List.set_cons_succ, List.set_cons_zero] at hx
            subst hx
            go_wp2
            go_roundw
            case rel => exact ⟨0 + 1, by omega, by go_num, hide ((S0.out.below hb).bel), hide (by rw [HTK.out]; exact Ris.snoc.2 HYES.out)⟩
            case measure => simp [intOf]; omega
        · obtain ⟨p, rfl⟩ : ∃ p, j = p + 1 := ⟨j - 1, by omega⟩
          obtain ⟨y, hy⟩ : ∃ y, l[p]? = some y := ⟨_, List.getElem?_eq_getElem (by omega)⟩
          obtain ⟨b2, o2, e2, y0, y1, y2⟩ := HV.out.at_ S0.out.bel hy
          injection e2 with e2
          injection e2 with e2 e3 _
          subst e2 e3
          have HLB := hide (show b < w5.heap.size from by
            obtain ⟨b3, o3, e3, hb3⟩ : ∃ b3 o3, (some (⟨b, o, none⟩ : Addr)) = some ⟨b3, o3, none⟩ ∧ b3 < w.heap.size := by
              obtain ⟨A, c1, e, h⟩ := HV.out
              obtain ⟨b3, o3, rfl, h3, _⟩ := h (by omega)
              injection e with e _ _
              exact ⟨b3, o3, e, h3⟩
            injection e3 with e3
            injection e3 with e3 _ _
            subst e3
            exact Nat.lt_of_lt_of_le hb3 S0.out.bel.size)
          have HLAST : Hid ((l.take (p + 1)).getLast? = some y) := hide (last_at hy)
          have HLS := hide (fun w => less_any y.t x.t y.k y.v x.k x.v w)
          have HY := hide hy
          clear hy i0 i1 i2
          have z1 : (0 : Int) < (p : Int) + 1 := by omega
          have z2 : ((p : Int) + 1) - 1 = (p : Int) := by omega
          have z3 : (0 : Int) ≤ (p : Int) := by omega
          have z4 : (p : Int) < (l.length : Int) := by omega
          have z5 : IntKind.i64.wrap ((p : Int) + 1 - 1) = (p : Int) := by rw [IntKind.wrap_i64]; omega
          have z6 : IntKind.i64.wrap (p : Int) = (p : Int) := by rw [IntKind.wrap_i64]; omega
          cases hls : lessB y.t y.k x.t x.k
          · have HNO : Hid (¬ Ris l) := hide (fun h => by have := chn_at h.ch HY.out HC.out; unfold lessR at this; rw [hls] at this; cases this)
            rw [hls] at HLS
            refine region_grows [Say.is (.agg #[.int .i64 x.t, .string x.k, .string x.v]), Say.is (.bool true), Say.is (.bool false), Say.is (.bool false), Say.is (.int .i64 ((p : Int) + 1)), Say.is (.bool true), Say.is (.bool true), Say.is (.slice (some ⟨b, o, none⟩) l.length c), Say.is (.int .i64 ((p : Int) + 1)), Say.is (.int .i64 (p : Int)), Say.is (.pointer (some ⟨b, o + p * 3, none⟩)), Say.is (.agg #[.int .i64 y.t, .string y.k, .string y.v]), Say.is (.agg #[.int .i64 x.t, .string x.k, .string x.v]), Say.is (.bool false), Say.is (.bool true), Say.is (.bool true), Say.is (.bool true)] (by kernel_rfl) (by kernel_rfl) (by kernel_rfl) (by kernel_rfl) ?_ ?_
            · intro i o ho a w2 hb hsz old dep
              match i, ho with
              | 0, ho =>
                obtain rfl := Option.some.inj ho
                have o4 : a.tmps.getD 4 undef = _ := old 4 (by kernel_rfl)
                rw [if_pos (wanted_none rfl)]
                have g0 := (hb.cell (p := ⟨wr.heap.size, 0, none⟩) HLT.out).trans c0
                have g1 := (hb.cell (p := ⟨wr.heap.size, 1, none⟩) HLT.out).trans c1
                have g2 := (hb.cell (p := ⟨wr.heap.size, 2, none⟩) HLT.out).trans c2
                refine grow_same (v := .agg #[.int .i64 x.t, .string x.k, .string x.v]) ?_ rfl
                clear old dep ho hsz hb
                go_simp
              | 1, ho =>
                obtain rfl := Option.some.inj ho
                have d0 : a.tmps.getD 12 undef = .agg #[.int .i64 x.t, .string x.k, .string x.v] := dep 0 _ _ (by kernel_rfl) rfl rfl
                have e0 : a.tmps[12]?.getD undef = _ := (Array.getD_eq_getD_getElem? ..).symm.trans d0
                rw [if_pos (wanted_none rfl)]
                refine grow_enters (f := 27) (args := #[.agg #[.int .i64 x.t, .string x.k, .string x.v]]) ?_ (grow_is (HRT.out _))
                clear old dep ho hsz hb
                go_simp
              | 2, ho =>
                obtain rfl := Option.some.inj ho
                have d1 : a.tmps.getD 13 undef = .bool true := dep 1 _ _ (by kernel_rfl) rfl rfl
                have e1 : a.tmps[13]?.getD undef = _ := (Array.getD_eq_getD_getElem? ..).symm.trans d1
                rw [if_pos (wanted_none rfl)]
                refine grow_same (v := .bool false) ?_ rfl
                clear old dep ho hsz hb
                go_simp
              | 3, ho =>
                obtain rfl := Option.some.inj ho
                have d2 : a.tmps.getD 14 undef = .bool false := dep 2 _ _ (by kernel_rfl) rfl rfl
                have e2 : a.tmps[14]?.getD undef = _ := (Array.getD_eq_getD_getElem? ..).symm.trans d2
                rw [if_pos (wanted_none rfl)]
                refine grow_same (v := .bool false) ?_ rfl
                clear old dep ho hsz hb
                go_simp
              | 4, ho =>
                obtain rfl := Option.some.inj ho
                have o3 : a.tmps.getD 3 undef = _ := old 3 (by kernel_rfl)
                have d3 : a.tmps.getD 15 undef = .bool false := dep 3 _ _ (by kernel_rfl) rfl rfl
                have e3 : a.tmps[15]?.getD undef = _ := (Array.getD_eq_getD_getElem? ..).symm.trans d3
                rw [if_pos (wanted_some rfl rfl rfl (by rw [hsz]; exact of_decide_eq_true rfl) d3)]
                refine grow_same (v := .int .i64 ((p : Int) + 1)) ?_ rfl
                clear old dep ho hsz hb
                go_simp
              | 5, ho =>
                obtain rfl := Option.some.inj ho
                have d4 : a.tmps.getD 16 undef = .int .i64 ((p : Int) + 1) := dep 4 _ _ (by kernel_rfl) rfl rfl
                have e4 : a.tmps[16]?.getD undef = _ := (Array.getD_eq_getD_getElem? ..).symm.trans d4
                have d3 : a.tmps.getD 15 undef = .bool false := dep 3 _ _ (by kernel_rfl) rfl rfl
                have e3 : a.tmps[15]?.getD undef = _ := (Array.getD_eq_getD_getElem? ..).symm.trans d3
                rw [if_pos (wanted_some rfl rfl rfl (by rw [hsz]; exact of_decide_eq_true rfl) d3)]
                refine grow_same (v := .bool true) ?_ rfl
                clear old dep ho hsz hb
                go_simp
              | 6, ho =>
                obtain rfl := Option.some.inj ho
                have d5 : a.tmps.getD 17 undef = .bool true := dep 5 _ _ (by kernel_rfl) rfl rfl
                have e5 : a.tmps[17]?.getD undef = _ := (Array.getD_eq_getD_getElem? ..).symm.trans d5
                have d3 : a.tmps.getD 15 undef = .bool false := dep 3 _ _ (by kernel_rfl) rfl rfl
                have e3 : a.tmps[15]?.getD undef = _ := (Array.getD_eq_getD_getElem? ..).symm.trans d3
                rw [if_pos (wanted_some rfl rfl rfl (by rw [hsz]; exact of_decide_eq_true rfl) d3)]
                refine grow_same (v := .bool true) ?_ rfl
                clear old dep ho hsz hb
                go_simp
              | 7, ho =>
                obtain rfl := Option.some.inj ho
                have o0 : a.tmps.getD 0 undef = _ := old 0 (by kernel_rfl)
                have d6 : a.tmps.getD 18 undef = .bool true := dep 6 _ _ (by kernel_rfl) rfl rfl
                have e6 : a.tmps[18]?.getD undef = _ := (Array.getD_eq_getD_getElem? ..).symm.trans d6
                rw [if_pos (wanted_some rfl rfl rfl (by rw [hsz]; exact of_decide_eq_true rfl) d6)]
                refine grow_same (v := .slice (some ⟨b, o, none⟩) l.length c) ?_ rfl
                clear old dep ho hsz hb
                go_simp
              | 8, ho =>
                obtain rfl := Option.some.inj ho
                have o3 : a.tmps.getD 3 undef = _ := old 3 (by kernel_rfl)
                have d6 : a.tmps.getD 18 undef = .bool true := dep 6 _ _ (by kernel_rfl) rfl rfl
                have e6 : a.tmps[18]?.getD undef = _ := (Array.getD_eq_getD_getElem? ..).symm.trans d6
                rw [if_pos (wanted_some rfl rfl rfl (by rw [hsz]; exact of_decide_eq_true rfl) d6)]
                refine grow_same (v := .int .i64 ((p : Int) + 1)) ?_ rfl
                clear old dep ho hsz hb
                go_simp
              | 9, ho =>
                obtain rfl := Option.some.inj ho
                have d8 : a.tmps.getD 20 undef = .int .i64 ((p : Int) + 1) := dep 8 _ _ (by kernel_rfl) rfl rfl
                have e8 : a.tmps[20]?.getD undef = _ := (Array.getD_eq_getD_getElem? ..).symm.trans d8
                have d6 : a.tmps.getD 18 undef = .bool true := dep 6 _ _ (by kernel_rfl) rfl rfl
                have e6 : a.tmps[18]?.getD undef = _ := (Array.getD_eq_getD_getElem? ..).symm.trans d6
                rw [if_pos (wanted_some rfl rfl rfl (by rw [hsz]; exact of_decide_eq_true rfl) d6)]
                refine grow_same (v := .int .i64 (p : Int)) ?_ rfl
                clear old dep ho hsz hb
                go_simp
              | 10, ho =>
                obtain rfl := Option.some.inj ho
                have d7 : a.tmps.getD 19 undef = .slice (some ⟨b, o, none⟩) l.length c := dep 7 _ _ (by kernel_rfl) rfl rfl
                have e7 : a.tmps[19]?.getD undef = _ := (Array.getD_eq_getD_getElem? ..).symm.trans d7
                have d9 : a.tmps.getD 21 undef = .int .i64 (p : Int) := dep 9 _ _ (by kernel_rfl) rfl rfl
                have e9 : a.tmps[21]?.getD undef = _ := (Array.getD_eq_getD_getElem? ..).symm.trans d9
                have d6 : a.tmps.getD 18 undef = .bool true := dep 6 _ _ (by kernel_rfl) rfl rfl
                have e6 : a.tmps[18]?.getD undef = _ := (Array.getD_eq_getD_getElem? ..).symm.trans d6
                rw [if_pos (wanted_some rfl rfl rfl (by rw [hsz]; exact of_decide_eq_true rfl) d6)]
                refine grow_same (v := .pointer (some ⟨b, o + p * 3, none⟩)) ?_ rfl
                clear old dep ho hsz hb
                go_simp
              | 11, ho =>
                obtain rfl := Option.some.inj ho
                have d10 : a.tmps.getD 22 undef = .pointer (some ⟨b, o + p * 3, none⟩) := dep 10 _ _ (by kernel_rfl) rfl rfl
                have e10 : a.tmps[22]?.getD undef = _ := (Array.getD_eq_getD_getElem? ..).symm.trans d10
                have d6 : a.tmps.getD 18 undef = .bool true := dep 6 _ _ (by kernel_rfl) rfl rfl
                have e6 : a.tmps[18]?.getD undef = _ := (Array.getD_eq_getD_getElem? ..).symm.trans d6
                rw [if_pos (wanted_some rfl rfl rfl (by rw [hsz]; exact of_decide_eq_true rfl) d6)]
                have g0 := (hb.cell (p := ⟨b, o + p * 3, none⟩) HLB.out).trans y0
                have g1 := (hb.cell (p := ⟨b, o + p * 3 + 1, none⟩) HLB.out).trans y1
                have g2 := (hb.cell (p := ⟨b, o + p * 3 + 2, none⟩) HLB.out).trans y2
                refine grow_same (v := .agg #[.int .i64 y.t, .string y.k, .string y.v]) ?_ rfl
                clear old dep ho hsz hb
                go_simp
              | 12, ho =>
                obtain rfl := Option.some.inj ho
                have o4 : a.tmps.getD 4 undef = _ := old 4 (by kernel_rfl)
                have d6 : a.tmps.getD 18 undef = .bool true := dep 6 _ _ (by kernel_rfl) rfl rfl
                have e6 : a.tmps[18]?.getD undef = _ := (Array.getD_eq_getD_getElem? ..).symm.trans d6
                rw [if_pos (wanted_some rfl rfl rfl (by rw [hsz]; exact of_decide_eq_true rfl) d6)]
                have g0 := (hb.cell (p := ⟨wr.heap.size, 0, none⟩) HLT.out).trans c0
                have g1 := (hb.cell (p := ⟨wr.heap.size, 1, none⟩) HLT.out).trans c1
                have g2 := (hb.cell (p := ⟨wr.heap.size, 2, none⟩) HLT.out).trans c2
                refine grow_same (v := .agg #[.int .i64 x.t, .string x.k, .string x.v]) ?_ rfl
                clear old dep ho hsz hb
                go_simp
              | 13, ho =>
                obtain rfl := Option.some.inj ho
                have d11 : a.tmps.getD 23 undef = .agg #[.int .i64 y.t, .string y.k, .string y.v] := dep 11 _ _ (by kernel_rfl) rfl rfl
                have e11 : a.tmps[23]?.getD undef = _ := (Array.getD_eq_getD_getElem? ..).symm.trans d11
                have d12 : a.tmps.getD 24 undef = .agg #[.int .i64 x.t, .string x.k, .string x.v] := dep 12 _ _ (by kernel_rfl) rfl rfl
                have e12 : a.tmps[24]?.getD undef = _ := (Array.getD_eq_getD_getElem? ..).symm.trans d12
                have d6 : a.tmps.getD 18 undef = .bool true := dep 6 _ _ (by kernel_rfl) rfl rfl
                have e6 : a.tmps[18]?.getD undef = _ := (Array.getD_eq_getD_getElem? ..).symm.trans d6
                rw [if_pos (wanted_some rfl rfl rfl (by rw [hsz]; exact of_decide_eq_true rfl) d6)]
                refine grow_enters (f := 28) (args := #[.agg #[.int .i64 y.t, .string y.k, .string y.v], .agg #[.int .i64 x.t, .string x.k, .string x.v]]) ?_ (grow_is (HLS.out _))
                clear old dep ho hsz hb
                go_simp
              | 14, ho =>
                obtain rfl := Option.some.inj ho
                have d13 : a.tmps.getD 25 undef = .bool false := dep 13 _ _ (by kernel_rfl) rfl rfl
                have e13 : a.tmps[25]?.getD undef = _ := (Array.getD_eq_getD_getElem? ..).symm.trans d13
                have d6 : a.tmps.getD 18 undef = .bool true := dep 6 _ _ (by kernel_rfl) rfl rfl
                have e6 : a.tmps[18]?.getD undef = _ := (Array.getD_eq_getD_getElem? ..).symm.trans d6
                rw [if_pos (wanted_some rfl rfl rfl (by rw [hsz]; exact of_decide_eq_true rfl) d6)]
                refine grow_same (v := .bool true) ?_ rfl
                clear old dep ho hsz hb
                go_simp
              | 15, ho =>
                obtain rfl := Option.some.inj ho
                have d6 : a.tmps.getD 18 undef = .bool true := dep 6 _ _ (by kernel_rfl) rfl rfl
                have e6 : a.tmps[18]?.getD undef = _ := (Array.getD_eq_getD_getElem? ..).symm.trans d6
                have d14 : a.tmps.getD 26 undef = .bool true := dep 14 _ _ (by kernel_rfl) rfl rfl
                have e14 : a.tmps[26]?.getD undef = _ := (Array.getD_eq_getD_getElem? ..).symm.trans d14
                have d3 : a.tmps.getD 15 undef = .bool false := dep 3 _ _ (by kernel_rfl) rfl rfl
                have e3 : a.tmps[15]?.getD undef = _ := (Array.getD_eq_getD_getElem? ..).symm.trans d3
                rw [if_pos (wanted_some rfl rfl rfl (by rw [hsz]; exact of_decide_eq_true rfl) d3)]
                refine grow_same (v := .bool true) ?_ rfl
                clear old dep ho hsz hb
                go_simp
              | 16, ho =>
                obtain rfl := Option.some.inj ho
                have d3 : a.tmps.getD 15 undef = .bool false := dep 3 _ _ (by kernel_rfl) rfl rfl
                have e3 : a.tmps[15]?.getD undef = _ := (Array.getD_eq_getD_getElem? ..).symm.trans d3
                have d15 : a.tmps.getD 27 undef = .bool true := dep 15 _ _ (by kernel_rfl) rfl rfl
                have e15 : a.tmps[27]?.getD undef = _ := (Array.getD_eq_getD_getElem? ..).symm.trans d15
                rw [if_pos (wanted_none rfl)]
                refine grow_same (v := .bool true) ?_ rfl
                clear old dep ho hsz hb
                go_simp
              | i + 17, ho => exact absurd ho (by simp)
            · intro a w6 hb hsz hdf fin keep
              obtain ⟨tm, df⟩ := a
              have hx := frame_of [12, 13, 14, 15, 16, 17, 18, 19, 20, 21, 22, 23, 24, 25, 26, 27, 28] (by kernel_rfl) hsz keep
              dsimp only at hdf hx
              simp only [List.foldl_cons, List.foldl_nil] at hx
              subst hdf
              clear hsz keep
              have kn : tm.getD 12 undef = .agg #[.int .i64 x.t, .string x.k, .string x.v] := fin 0 _ _ rfl rfl
              rw [kn] at hx
              clear kn
              have kn : tm.getD 13 undef = .bool true := fin 1 _ _ rfl rfl
              rw [kn] at hx
              clear kn
              have kn : tm.getD 14 undef = .bool false := fin 2 _ _ rfl rfl
              rw [kn] at hx
              clear kn
              have kn : tm.getD 15 undef = .bool false := fin 3 _ _ rfl rfl
              rw [kn] at hx
              clear kn
              have kn : tm.getD 16 undef = .int .i64 ((p : Int) + 1) := fin 4 _ _ rfl rfl
              rw [kn] at hx
              clear kn
              have kn : tm.getD 17 undef = .bool true := fin 5 _ _ rfl rfl
              rw [kn] at hx
              clear kn
              have kn : tm.getD 18 undef = .bool true := fin 6 _ _ rfl rfl
              rw [kn] at hx
              clear kn
              have kn : tm.getD 19 undef = .slice (some ⟨b, o, none⟩) l.length c := fin 7 _ _ rfl rfl
              rw [kn] at hx
              clear kn
              have kn : tm.getD 20 undef = .int .i64 ((p : Int) + 1) := fin 8 _ _ rfl rfl
              rw [kn] at hx
              clear kn
              have kn : tm.getD 21 undef = .int .i64 (p : Int) := fin 9 _ _ rfl rfl
              rw [kn] at hx
              clear kn
              have kn : tm.getD 22 undef = .pointer (some ⟨b, o + p * 3, none⟩) := fin 10 _ _ rfl rfl
              rw [kn] at hx
              clear kn
              have kn : tm.getD 23 undef = .agg #[.int .i64 y.t, .string y.k, .string y.v] := fin 11 _ _ rfl rfl
              rw [kn] at hx
              clear kn
              have kn : tm.getD 24 undef = .agg #[.int .i64 x.t, .string x.k, .string x.v] := fin 12 _ _ rfl rfl
              rw [kn] at hx
              clear kn
              have kn : tm.getD 25 undef = .bool false := fin 13 _ _ rfl rfl
              rw [kn] at hx
              clear kn
              have kn : tm.getD 26 undef = .bool true := fin 14 _ _ rfl rfl
              rw [kn] at hx
              clear kn
              have kn : tm.getD 27 undef = .bool true := fin 15 _ _ rfl rfl
              rw [kn] at hx
              clear kn
              have kn : tm.getD 28 undef = .bool true := fin 16 _ _ rfl rfl
              rw [kn] at hx
              clear kn
              clear fin
              simp only [List.setIfInBounds_toArray, List.set_cons_succ, List.set_cons_zero] at hx
              subst hx
              go_wp2
              go_ret
              rw [risB_no HNO.out]
              exact ⟨rfl, (S0.out.below hb).bel⟩
          · have HYES : Hid (Ris (l.take (p + 1)) ∧ okR x = true ∧ ∀ y, (l.take (p + 1)).getLast? = some y → lessR y x = true) := hide ⟨ha.out, hok, fun z hz => by rw [HLAST.out] at hz; obtain rfl := Option.some.inj hz; exact hls⟩
            rw [hls] at HLS
            refine region_grows [Say.is (.agg #[.int .i64 x.t, .string x.k, .string x.v]), Say.is (.bool true), Say.is (.bool false), Say.is (.bool false), Say.is (.int .i64 ((p : Int) + 1)), Say.is (.bool true), Say.is (.bool true), Say.is (.slice (some ⟨b, o, none⟩) l.length c), Say.is (.int .i64 ((p : Int) + 1)), Say.is (.int .i64 (p : Int)), Say.is (.pointer (some ⟨b, o + p * 3, none⟩)), Say.is (.agg #[.int .i64 y.t, .string y.k, .string y.v]), Say.is (.agg #[.int .i64 x.t, .string x.k, .string x.v]), Say.is (.bool true), Say.is (.bool false), Say.is (.bool false), Say.is (.bool false)] (by kernel_rfl) (by kernel_rfl) (by kernel_rfl) (by kernel_rfl) ?_ ?_
            · intro i o ho a w2 hb hsz old dep
              match i, ho with
              | 0, ho =>
                obtain rfl := Option.some.inj ho
                have o4 : a.tmps.getD 4 undef = _ := old 4 (by kernel_rfl)
                rw [if_pos (wanted_none rfl)]
                have g0 := (hb.cell (p := ⟨wr.heap.size, 0, none⟩) HLT.out).trans c0
                have g1 := (hb.cell (p := ⟨wr.heap.size, 1, none⟩) HLT.out).trans c1
                have g2 := (hb.cell (p := ⟨wr.heap.size, 2, none⟩) HLT.out).trans c2
                refine grow_same (v := .agg #[.int .i64 x.t, .string x.k, .string x.v]) ?_ rfl
                clear old dep ho hsz hb
                go_simp
              | 1, ho =>
                obtain rfl := Option.some.inj ho
                have d0 : a.tmps.getD 12 undef = .agg #[.int .i64 x.t, .string x.k, .string x.v] := dep 0 _ _ (by kernel_rfl) rfl rfl
                have e0 : a.tmps[12]?.getD undef = _ := (Array.getD_eq_getD_getElem? ..).symm.trans d0
                rw [if_pos (wanted_none rfl)]
                refine grow_enters (f := 27) (args := #[.agg #[.int .i64 x.t, .string x.k, .string x.v]]) ?_ (grow_is (HRT.out _))
                clear old dep ho hsz hb
                go_simp
              | 2, ho =>
                obtain rfl := Option.some.inj ho
                have d1 : a.tmps.getD 13 undef = .bool true := dep 1 _ _ (by kernel_rfl) rfl rfl
                have e1 : a.tmps[13]?.getD undef = _ := (Array.getD_eq_getD_getElem? ..).symm.trans d1
                rw [if_pos (wanted_none rfl)]
                refine grow_same (v := .bool false) ?_ rfl
                clear old dep ho hsz hb
                go_simp
              | 3, ho =>
                obtain rfl := Option.some.inj ho
                have d2 : a.tmps.getD 14 undef = .bool false := dep 2 _ _ (by kernel_rfl) rfl rfl
                have e2 : a.tmps[14]?.getD undef = _ := (Array.getD_eq_getD_getElem? ..).symm.trans d2
                rw [if_pos (wanted_none rfl)]
                refine grow_same (v := .bool false) ?_ rfl
                clear old dep ho hsz hb
                go_simp
              | 4, ho =>
                obtain rfl := Option.some.inj ho
                have o3 : a.tmps.getD 3 undef = _ := old 3 (by kernel_rfl)
                have d3 : a.tmps.getD 15 undef = .bool false := dep 3 _ _ (by kernel_rfl) rfl rfl
                have e3 : a.tmps[15]?.getD undef = _ := (Array.getD_eq_getD_getElem? ..).symm.trans d3
                rw [if_pos (wanted_some rfl rfl rfl (by rw [hsz]; exact of_decide_eq_true rfl) d3)]
                refine grow_same (v := .int .i64 ((p : Int) + 1)) ?_ rfl
                clear old dep ho hsz hb
                go_simp
              | 5, ho =>
                obtain rfl := Option.some.inj ho
                have d4 : a.tmps.getD 16 undef = .int .i64 ((p : Int) + 1) := dep 4 _ _ (by kernel_rfl) rfl rfl
                have e4 : a.tmps[16]?.getD undef = _ := (Array.getD_eq_getD_getElem? ..).symm.trans d4
                have d3 : a.tmps.getD 15 undef = .bool false := dep 3 _ _ (by kernel_rfl) rfl rfl
                have e3 : a.tmps[15]?.getD undef = _ := (Array.getD_eq_getD_getElem? ..).symm.trans d3
                rw [if_pos (wanted_some rfl rfl rfl (by rw [hsz]; exact of_decide_eq_true rfl) d3)]
                refine grow_same (v := .bool true) ?_ rfl
                clear old dep ho hsz hb
                go_simp
              | 6, ho =>
                obtain rfl := Option.some.inj ho
                have d5 : a.tmps.getD 17 undef = .bool true := dep 5 _ _ (by kernel_rfl) rfl rfl
                have e5 : a.tmps[17]?.getD undef = _ := (Array.getD_eq_getD_getElem? ..).symm.trans d5
                have d3 : a.tmps.getD 15 undef = .bool false := dep 3 _ _ (by kernel_rfl) rfl rfl
                have e3 : a.tmps[15]?.getD undef = _ := (Array.getD_eq_getD_getElem? ..).symm.trans d3
                rw [if_pos (wanted_some rfl rfl rfl (by rw [hsz]; exact of_decide_eq_true rfl) d3)]
                refine grow_same (v := .bool true) ?_ rfl
                clear old dep ho hsz hb
                go_simp
              | 7, ho =>
                obtain rfl := Option.some.inj ho
                have o0 : a.tmps.getD 0 undef = _ := old 0 (by kernel_rfl)
                have d6 : a.tmps.getD 18 undef = .bool true := dep 6 _ _ (by kernel_rfl) rfl rfl
                have e6 : a.tmps[18]?.getD undef = _ := (Array.getD_eq_getD_getElem? ..).symm.trans d6
                rw [if_pos (wanted_some rfl rfl rfl (by rw [hsz]; exact of_decide_eq_true rfl) d6)]
                refine grow_same (v := .slice (some ⟨b, o, none⟩) l.length c) ?_ rfl
                clear old dep ho hsz hb
                go_simp
              | 8, ho =>
                obtain rfl := Option.some.inj ho
                have o3 : a.tmps.getD 3 undef = _ := old 3 (by kernel_rfl)
                have d6 : a.tmps.getD 18 undef = .bool true := dep 6 _ _ (by kernel_rfl) rfl rfl
                have e6 : a.tmps[18]?.getD undef = _ := (Array.getD_eq_getD_getElem? ..).symm.trans d6
                rw [if_pos (wanted_some rfl rfl rfl (by rw [hsz]; exact of_decide_eq_true rfl) d6)]
                refine grow_same (v := .int .i64 ((p : Int) + 1)) ?_ rfl
                clear old dep ho hsz hb
                go_simp
              | 9, ho =>
                obtain rfl := Option.some.inj ho
                have d8 : a.tmps.getD 20 undef = .int .i64 ((p : Int) + 1) := dep 8 _ _ (by kernel_rfl) rfl rfl
                have e8 : a.tmps[20]?.getD undef = _ := (Array.getD_eq_getD_getElem? ..).symm.trans d8
                have d6 : a.tmps.getD 18 undef = .bool true := dep 6 _ _ (by kernel_rfl) rfl rfl
                have e6 : a.tmps[18]?.getD undef = _ := (Array.getD_eq_getD_getElem? ..).symm.trans d6
                rw [if_pos (wanted_some rfl rfl rfl (by rw [hsz]; exact of_decide_eq_true rfl) d6)]
                refine grow_same (v := .int .i64 (p : Int)) ?_ rfl
                clear old dep ho hsz hb
                go_simp
              | 10, ho =>
                obtain rfl := Option.some.inj ho
                have d7 : a.tmps.getD 19 undef = .slice (some ⟨b, o, none⟩) l.length c := dep 7 _ _ (by kernel_rfl) rfl rfl
                have e7 : a.tmps[19]?.getD undef = _ := (Array.getD_eq_getD_getElem? ..).symm.trans d7
                have d9 : a.tmps.getD 21 undef = .int .i64 (p : Int) := dep 9 _ _ (by kernel_rfl) rfl rfl
                have e9 : a.tmps[21]?.getD undef = _ := (Array.getD_eq_getD_getElem? ..).symm.trans d9
                have d6 : a.tmps.getD 18 undef = .bool true := dep 6 _ _ (by kernel_rfl) rfl rfl
                have e6 : a.tmps[18]?.getD undef = _ := (Array.getD_eq_getD_getElem? ..).symm.trans d6
                rw [if_pos (wanted_some rfl rfl rfl (by rw [hsz]; exact of_decide_eq_true rfl) d6)]
                refine grow_same (v := .pointer (some ⟨b, o + p * 3, none⟩)) ?_ rfl
                clear old dep ho hsz hb
                go_simp
              | 11, ho =>
                obtain rfl := Option.some.inj ho
                have d10 : a.tmps.getD 22 undef = .pointer (some ⟨b, o + p * 3, none⟩) := dep 10 _ _ (by kernel_rfl) rfl rfl
                have e10 : a.tmps[22]?.getD undef = _ := (Array.getD_eq_getD_getElem? ..).symm.trans d10
                have d6 : a.tmps.getD 18 undef = .bool true := dep 6 _ _ (by kernel_rfl) rfl rfl
                have e6 : a.tmps[18]?.getD undef = _ := (Array.getD_eq_getD_getElem? ..).symm.trans d6
                rw [if_pos (wanted_some rfl rfl rfl (by rw [hsz]; exact of_decide_eq_true rfl) d6)]
                have g0 := (hb.cell (p := ⟨b, o + p * 3, none⟩) HLB.out).trans y0
                have g1 := (hb.cell (p := ⟨b, o + p * 3 + 1, none⟩) HLB.out).trans y1
                have g2 := (hb.cell (p := ⟨b, o + p * 3 + 2, none⟩) HLB.out).trans y2
                refine grow_same (v := .agg #[.int .i64 y.t, .string y.k, .string y.v]) ?_ rfl
                clear old dep ho hsz hb
                go_simp
              | 12, ho =>
                obtain rfl := Option.some.inj ho
                have o4 : a.tmps.getD 4 undef = _ := old 4 (by kernel_rfl)
                have d6 : a.tmps.getD 18 undef = .bool true := dep 6 _ _ (by kernel_rfl) rfl rfl
                have e6 : a.tmps[18]?.getD undef = _ := (Array.getD_eq_getD_getElem? ..).symm.trans d6
                rw [if_pos (wanted_some rfl rfl rfl (by rw [hsz]; exact of_decide_eq_true rfl) d6)]
                have g0 := (hb.cell (p := ⟨wr.heap.size, 0, none⟩) HLT.out).trans c0
                have g1 := (hb.cell (p := ⟨wr.heap.size, 1, none⟩) HLT.out).trans c1
                have g2 := (hb.cell (p := ⟨wr.heap.size, 2, none⟩) HLT.out).trans c2
                refine grow_same (v := .agg #[.int .i64 x.t, .string x.k, .string x.v]) ?_ rfl
                clear old dep ho hsz hb
                go_simp
              | 13, ho =>
                obtain rfl := Option.some.inj ho
                have d11 : a.tmps.getD 23 undef = .agg #[.int .i64 y.t, .string y.k, .string y.v] := dep 11 _ _ (by kernel_rfl) rfl rfl
                have e11 : a.tmps[23]?.getD undef = _ := (Array.getD_eq_getD_getElem? ..).symm.trans d11
                have d12 : a.tmps.getD 24 undef = .agg #[.int .i64 x.t, .string x.k, .string x.v] := dep 12 _ _ (by kernel_rfl) rfl rfl
                have e12 : a.tmps[24]?.getD undef = _ := (Array.getD_eq_getD_getElem? ..).symm.trans d12
                have d6 : a.tmps.getD 18 undef = .bool true := dep 6 _ _ (by kernel_rfl) rfl rfl
                have e6 : a.tmps[18]?.getD undef = _ := (Array.getD_eq_getD_getElem? ..).symm.trans d6
                rw [if_pos (wanted_some rfl rfl rfl (by rw [hsz]; exact of_decide_eq_true rfl) d6)]
                refine grow_enters (f := 28) (args := #[.agg #[.int .i64 y.t, .string y.k, .string y.v], .agg #[.int .i64 x.t, .string x.k, .string x.v]]) ?_ (grow_is (HLS.out _))
                clear old dep ho hsz hb
                go_simp
              | 14, ho =>
                obtain rfl := Option.some.inj ho
                have d13 : a.tmps.getD 25 undef = .bool true := dep 13 _ _ (by kernel_rfl) rfl rfl
                have e13 : a.tmps[25]?.getD undef = _ := (Array.getD_eq_getD_getElem? ..).symm.trans d13
                have d6 : a.tmps.getD 18 undef = .bool true := dep 6 _ _ (by kernel_rfl) rfl rfl
                have e6 : a.tmps[18]?.getD undef = _ := (Array.getD_eq_getD_getElem? ..).symm.trans d6
                rw [if_pos (wanted_some rfl rfl rfl (by rw [hsz]; exact of_decide_eq_true rfl) d6)]
                refine grow_same (v := .bool false) ?_ rfl
                clear old dep ho hsz hb
                go_simp
              | 15, ho =>
                obtain rfl := Option.some.inj ho
                have d6 : a.tmps.getD 18 undef = .bool true := dep 6 _ _ (by kernel_rfl) rfl rfl
                have e6 : a.tmps[18]?.getD undef = _ := (Array.getD_eq_getD_getElem? ..).symm.trans d6
                have d14 : a.tmps.getD 26 undef = .bool false := dep 14 _ _ (by kernel_rfl) rfl rfl
                have e14 : a.tmps[26]?.getD undef = _ := (Array.getD_eq_getD_getElem? ..).symm.trans d14
                have d3 : a.tmps.getD 15 undef = .bool false := dep 3 _ _ (by kernel_rfl) rfl rfl
                have e3 : a.tmps[15]?.getD undef = _ := (Array.getD_eq_getD_getElem? ..).symm.trans d3
                rw [if_pos (wanted_some rfl rfl rfl (by rw [hsz]; exact of_decide_eq_true rfl) d3)]
                refine grow_same (v := .bool false) ?_ rfl
                clear old dep ho hsz hb
                go_simp
              | 16, ho =>
                obtain rfl := Option.some.inj ho
                have d3 : a.tmps.getD 15 undef = .bool false := dep 3 _ _ (by kernel_rfl) rfl rfl
                have e3 : a.tmps[15]?.getD undef = _ := (Array.getD_eq_getD_getElem? ..).symm.trans d3
                have d15 : a.tmps.getD 27 undef = .bool false := dep 15 _ _ (by kernel_rfl) rfl rfl
                have e15 : a.tmps[27]?.getD undef = _ := (Array.getD_eq_getD_getElem? ..).symm.trans d15
                rw [if_pos (wanted_none rfl)]
                refine grow_same (v := .bool false) ?_ rfl
                clear old dep ho hsz hb
                go_simp
              | i + 17, ho => exact absurd ho (by simp)
            · intro a w6 hb hsz hdf fin keep
              obtain ⟨tm, df⟩ := a
              have hx := frame_of [12, 13, 14, 15, 16, 17, 18, 19, 20, 21, 22, 23, 24, 25, 26, 27, 28] (by kernel_rfl) hsz keep
              dsimp only at hdf hx
              simp only [List.foldl_cons, List.foldl_nil] at hx
              subst hdf
              clear hsz keep
              have kn : tm.getD 12 undef = .agg #[.int .i64 x.t, .string x.k, .string x.v] := fin 0 _ _ rfl rfl
              rw [kn] at hx
              clear kn
              have kn : tm.getD 13 undef = .bool true := fin 1 _ _ rfl rfl
              rw [kn] at hx
              clear kn
              have kn : tm.getD 14 undef = .bool false := fin 2 _ _ rfl rfl
              rw [kn] at hx
              clear kn
              have kn : tm.getD 15 undef = .bool false := fin 3 _ _ rfl rfl
              rw [kn] at hx
              clear kn
              have kn : tm.getD 16 undef = .int .i64 ((p : Int) + 1) := fin 4 _ _ rfl rfl
              rw [kn] at hx
              clear kn
              have kn : tm.getD 17 undef = .bool true := fin 5 _ _ rfl rfl
              rw [kn] at hx
              clear kn
              have kn : tm.getD 18 undef = .bool true := fin 6 _ _ rfl rfl
              rw [kn] at hx
              clear kn
              have kn : tm.getD 19 undef = .slice (some ⟨b, o, none⟩) l.length c := fin 7 _ _ rfl rfl
              rw [kn] at hx
              clear kn
              have kn : tm.getD 20 undef = .int .i64 ((p : Int) + 1) := fin 8 _ _ rfl rfl
              rw [kn] at hx
              clear kn
              have kn : tm.getD 21 undef = .int .i64 (p : Int) := fin 9 _ _ rfl rfl
              rw [kn] at hx
              clear kn
              have kn : tm.getD 22 undef = .pointer (some ⟨b, o + p * 3, none⟩) := fin 10 _ _ rfl rfl
              rw [kn] at hx
              clear kn
              have kn : tm.getD 23 undef = .agg #[.int .i64 y.t, .string y.k, .string y.v] := fin 11 _ _ rfl rfl
              rw [kn] at hx
              clear kn
              have kn : tm.getD 24 undef = .agg #[.int .i64 x.t, .string x.k, .string x.v] := fin 12 _ _ rfl rfl
              rw [kn] at hx
              clear kn
              have kn : tm.getD 25 undef = .bool true := fin 13 _ _ rfl rfl
              rw [kn] at hx
              clear kn
              have kn : tm.getD 26 undef = .bool false := fin 14 _ _ rfl rfl
              rw [kn] at hx
              clear kn
              have kn : tm.getD 27 undef = .bool false := fin 15 _ _ rfl rfl
              rw [kn] at hx
              clear kn
              have kn : tm.getD 28 undef = .bool false := fin 16 _ _ rfl rfl
              rw [kn] at hx
              clear kn
              clear fin
              simp only [List.setIfInBounds_toArray, List.set_cons_succ, List.set_cons_zero] at hx
              subst hx
              go_wp2
              go_roundw
              case rel => exact ⟨(p + 1) + 1, by omega, by go_num, hide ((S0.out.below hb).bel), hide (by rw [HTK.out]; exact Ris.snoc.2 HYES.out)⟩
              case measure => simp [intOf]; omega
    · have q1 : ¬ (j : Int) < (l.length : Int) := by omega
      have HR : Hid (Ris l) := hide (by have := ha.out; rwa [List.take_of_length_le (by omega)] at this)
      go_wp2
      go_ret
      rw [risB_yes HR.out]
      exact ⟨rfl, hbl.out⟩
end Go.Proofs.Ythkocbfioegcnaa
