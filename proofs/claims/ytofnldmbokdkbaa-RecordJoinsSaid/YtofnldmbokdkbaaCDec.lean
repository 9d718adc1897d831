/-
  Contracts: HasPrefix of package bytes; Decode of package record.
-/
import Derived.Test.YtofnldmbokdkbaaCRead
namespace Go.Proofs.Ytofnldmbokdkbaa
open Go.RowKit

set_option linter.unusedSimpArgs false
set_option linter.unusedVariables false

theorem St.byte_take (b : UInt8) (r : List UInt8) : (⟨b :: r, false⟩ : St).take 1 = ⟨r, false⟩ := by
  have hc : (⟨b :: r, false⟩ : St).can 1 = true := by simp [St.can]; omega
  unfold St.take; rw [if_pos hc]; rfl
theorem St.byte_num (b : UInt8) (r : List UInt8) : (⟨b :: r, false⟩ : St).num 1 = b.toNat ∧ (⟨b :: r, false⟩ : St).numSt 1 = ⟨r, false⟩ := by
  have hc : (⟨b :: r, false⟩ : St).can 1 = true := by simp [St.can]; omega
  refine ⟨?_, ?_⟩
  · unfold St.num St.got; rw [if_pos (by omega), if_pos hc]; simp [val]
  · unfold St.numSt; rw [if_pos (by omega)]; exact St.byte_take b r
theorem St.some_take (a r : List UInt8) (n : Int) (h : (a.length : Int) = n) : (⟨a ++ r, false⟩ : St).take n = ⟨r, false⟩ ∧ (⟨a ++ r, false⟩ : St).got n = a := by
  subst h
  have hc : (⟨a ++ r, false⟩ : St).can (a.length : Int) = true := by simp [St.can]; omega
  exact ⟨by unfold St.take; rw [if_pos hc]; simp, by unfold St.got; rw [if_pos hc]; simp⟩
theorem St.text_of (t r : List UInt8) (h : t.length ≤ 255) : (⟨UInt8.ofNat t.length :: (t ++ r), false⟩ : St).text = t ∧ (⟨UInt8.ofNat t.length :: (t ++ r), false⟩ : St).textSt = ⟨r, false⟩ := by
  have hb : (UInt8.ofNat t.length).toNat = t.length := by rw [UInt8.toNat_ofNat']; omega
  obtain ⟨h1, h2⟩ := St.byte_num (UInt8.ofNat t.length) (t ++ r)
  unfold St.text St.textSt
  rw [h1, h2, hb]
  exact ⟨(St.some_take t r _ rfl).2, (St.some_take t r _ rfl).1⟩
theorem St.be_num (n x : Nat) (r : List UInt8) (h1 : 1 ≤ n) (h8 : n ≤ 8) (hx : x < 256 ^ n) : (⟨be n x ++ r, false⟩ : St).num n = x ∧ (⟨be n x ++ r, false⟩ : St).numSt n = ⟨r, false⟩ := by
  obtain ⟨h2, h3⟩ := St.some_take (be n x) r n (by rw [be_length])
  unfold St.num St.numSt
  rw [if_pos ⟨by omega, by omega⟩, if_pos ⟨by omega, by omega⟩, h3, h2, val_be, Nat.mod_eq_of_lt hx]
  exact ⟨rfl, rfl⟩
theorem St.nums_of (ds : List Nat) (r : List UInt8) (hu : ∀ x ∈ ds, x < 18446744073709551616) : ∀ j, j ≤ ds.length → St.numsSt j ⟨eights ds ++ r, false⟩ = ⟨eights (ds.drop j) ++ r, false⟩ ∧ St.nums j ⟨eights ds ++ r, false⟩ = ds.take j
  | 0, _ => ⟨by simp [St.numsSt], by simp [St.nums]⟩
  | j + 1, hj => by
    obtain ⟨h1, h2⟩ := St.nums_of ds r hu j (by omega)
    have hlt : j < ds.length := by omega
    have hd : ds.drop j = ds[j] :: ds.drop (j + 1) := List.drop_eq_getElem_cons hlt
    have he : eights (ds.drop j) ++ r = be 8 ds[j] ++ (eights (ds.drop (j + 1)) ++ r) := by
      rw [hd]
      show (be 8 ds[j] ++ eights (ds.drop (j + 1))) ++ r = _
      rw [List.append_assoc]
    have hb := St.be_num 8 ds[j] (eights (ds.drop (j + 1)) ++ r) (by omega) (by omega) (hu _ (List.getElem_mem hlt))
    rw [← he] at hb
    constructor
    · rw [St.numsSt, h1]
      exact hb.2
    · rw [St.nums, h1, h2, show (⟨eights (ds.drop j) ++ r, false⟩ : St).num 8 = ds[j] from hb.1]
      exact (List.take_succ_eq_append_getElem hlt).symm
/-- What is read where a frame begins. -/
theorem readR_frame {r : Rc} (h : r.Ok) (more : List UInt8) : readR (r.frame ++ more) = r := by
  obtain ⟨k, t, p, s, b, a, i, ds⟩ := r
  obtain ⟨hk, ht, hp, hs, hb, ha, hi, hd, hu⟩ := h
  dsimp only at hk ht hp hs hb ha hi hd hu
  generalize hn : (⟨k, t, p, s, b, a, i, ds⟩ : Rc).said.length = n
  have e0 : (⟨k, t, p, s, b, a, i, ds⟩ : Rc).frame ++ more = be 2 n ++ (UInt8.ofNat k :: (UInt8.ofNat t :: (UInt8.ofNat p :: (UInt8.ofNat s :: (UInt8.ofNat b.data.toList.length :: (b.data.toList ++ (UInt8.ofNat a.data.toList.length :: (a.data.toList ++ (be 2 i.size ++ (i.data.toList ++ (UInt8.ofNat ds.length :: (eights ds ++ more)))))))))))) := by
    rw [Rc.frame, hn, Rc.said, size_data, size_data]
    simp [txt]
  generalize (⟨k, t, p, s, b, a, i, ds⟩ : Rc).frame ++ more = X at *
  have lb : b.data.toList.length ≤ 255 := by rw [size_data]; omega
  have la : a.data.toList.length ≤ 255 := by rw [size_data]; omega
  have li : i.size < 256 ^ 2 := by show _ < 65536; omega
  have e1 := (congrArg rd1 e0).trans (St.some_take (be 2 n) _ 2 (by rw [be_length]; rfl)).1
  have e2 := (show rd2 X = (rd1 X).numSt 1 from rfl).trans ((congrArg (fun s => St.numSt s 1) e1).trans (St.byte_num _ _).2)
  have e3 := (show rd3 X = (rd2 X).numSt 1 from rfl).trans ((congrArg (fun s => St.numSt s 1) e2).trans (St.byte_num _ _).2)
  have e4 := (show rd4 X = (rd3 X).numSt 1 from rfl).trans ((congrArg (fun s => St.numSt s 1) e3).trans (St.byte_num _ _).2)
  have e5 := (show rd5 X = (rd4 X).numSt 1 from rfl).trans ((congrArg (fun s => St.numSt s 1) e4).trans (St.byte_num _ _).2)
  have e6 := (show rd6 X = (rd5 X).textSt from rfl).trans ((congrArg St.textSt e5).trans (St.text_of _ _ lb).2)
  have e7 := (show rd7 X = (rd6 X).textSt from rfl).trans ((congrArg St.textSt e6).trans (St.text_of _ _ la).2)
  have n7 : (rd7 X).num 2 = i.size := by rw [e7]; exact (St.be_num 2 _ _ (by omega) (by omega) li).1
  have e8 := (show rd8 X = (rd7 X).numSt 2 from rfl).trans ((congrArg (fun s => St.numSt s 2) e7).trans (St.be_num 2 _ _ (by omega) (by omega) li).2)
  have e9 := (show rd9 X = (rd8 X).take ((rd7 X).num 2 : Int) from rfl).trans ((congrArg (fun s => St.take s ((rd7 X).num 2 : Int)) e8).trans (St.some_take _ _ _ (by rw [size_data, n7])).1)
  have eI := (show rcI X = (rd8 X).got ((rd7 X).num 2 : Int) from rfl).trans ((congrArg (fun s => St.got s ((rd7 X).num 2 : Int)) e8).trans (St.some_take _ _ _ (by rw [size_data, n7])).2)
  have n9 : (rd9 X).num 1 = ds.length := by rw [e9, (St.byte_num _ _).1, UInt8.toNat_ofNat']; omega
  have eA := (show rdA X = (rd9 X).numSt 1 from rfl).trans ((congrArg (fun s => St.numSt s 1) e9).trans (St.byte_num _ _).2)
  have nk : (rd1 X).num 1 = k := by rw [e1, (St.byte_num _ _).1, UInt8.toNat_ofNat']; omega
  have nt : (rd2 X).num 1 = t := by rw [e2, (St.byte_num _ _).1, UInt8.toNat_ofNat']; omega
  have np : (rd3 X).num 1 = p := by rw [e3, (St.byte_num _ _).1, UInt8.toNat_ofNat']; omega
  have ns : (rd4 X).num 1 = s := by rw [e4, (St.byte_num _ _).1, UInt8.toNat_ofNat']; omega
  have nb : (rd5 X).text = b.data.toList := by rw [e5]; exact (St.text_of _ _ lb).1
  have na : (rd6 X).text = a.data.toList := by rw [e6]; exact (St.text_of _ _ la).1
  unfold readR
  rw [nk, nt, np, ns, nb, na, eI, n9, eA, (St.nums_of ds more hu ds.length (Nat.le_refl _)).2, List.take_length]
/-- The record whose frame bytes begin with, if there is one. -/
def decB (l : List UInt8) : Bool := (readR (l.take 395)).right && decide ((readR (l.take 395)).frame <+: l)
theorem readR_of {r : Rc} (h : r.Ok) {l : List UInt8} (hp : r.frame <+: l) : readR (l.take 395) = r := by
  have hm := h.most
  obtain ⟨m, rfl⟩ := hp
  have e : (r.frame ++ m).take 395 = r.frame ++ m.take (395 - r.frame.length) := by
    rw [List.take_append, List.take_of_length_le hm]
  rw [e]
  exact readR_frame h _
theorem decB_no {l : List UInt8} (h : decB l = false) : ∀ r : Rc, r.Ok → ¬ r.frame <+: l := by
  intro r hr hp
  have e := readR_of hr hp
  unfold decB at h
  rw [e, (Rc.right_iff r).2 hr, decide_eq_true hp] at h
  cases h
theorem frame_inj {r q : Rc} (hr : r.Ok) (hq : q.Ok) {l m : List UInt8} (h : r.frame ++ l = q.frame ++ m) : r = q := by
  rw [← readR_frame hr l, h, readR_frame hq m]

theorem equal_any (v u : Value) (l m : List UInt8) (w : World) (hv : Rd w v (u8s l)) (hu : Rd w u (u8s m)) :
    Calls Try.prog 36 #[v, u] w fun e w' => e = .returned (.bool (l == m)) ∧ w = w' := by
  obtain ⟨A, c, rfl, _, _⟩ := id hv
  obtain ⟨A', c', rfl, _, _⟩ := id hu
  rw [u8s_length] at hv hu
  simp only [u8s_length]
  have h1 := conv_rd hv
  have h2 := conv_rd hu
  clear hv hu
  go_enter Try.func36, Try.ntmps36
  go_wp2
  go_ret
  exact ⟨by simp, rfl⟩
theorem equal_told {v u : Value} {l m : List UInt8} {b : Bool} {w : World} (hv : Rd w v (u8s l)) (hu : Rd w u (u8s m)) (h : (l == m) = b) :
    Calls Try.prog 36 #[v, u] w fun e w' => e = .returned (.bool b) ∧ w = w' := by
  have := equal_any v u l m w hv hu
  rwa [h] at this
theorem conv_rdn {w : World} {A : Option Addr} {n c : Nat} {l : List UInt8} (hn : l.length = n) (h : Rd w (.slice A n c) (u8s l)) : (convert 25 9 (.slice A n c)).run Try.prog w = .ok (.string ⟨l.toArray⟩) w := by
  subst hn
  exact conv_rd h
theorem prefix_told {A A' : Option Addr} {n n' c c' : Nat} {l m : List UInt8} {b : Bool} {w : World} (hn : l.length = n) (hn' : m.length = n') (hv : Rd w (.slice A n c) (u8s l)) (hu : Rd w (.slice A' n' c') (u8s m)) (h : decide (m <+: l) = b) :
    Calls Try.prog 24 #[.slice A n c, .slice A' n' c'] w fun e w' => e = .returned (.bool b) ∧ w = w' := by
  subst hn hn'
  by_cases hle : m.length ≤ l.length
  · have hlow := fun W => run_low (P := Try.prog) slice8 size8 A l.length c m.length (by obtain ⟨_, _, he, hc, _⟩ := hv; injection he with _ e2 e3; rw [u8s_length] at hc; omega) W
    have hr := Rd.low hv hle
    have hb : (l.take m.length == m) = b := by
      rw [← h, Bool.eq_iff_iff]
      simp only [beq_iff_eq, decide_eq_true_eq, List.prefix_iff_eq_take]
      exact eq_comm
    have HU := hide hu
    clear h hv
    go_enter Try.func24, Try.ntmps24
    go_wp2_with (go_at_call 36; ((with_reducible refine (equal_told hr HU.out hb).mono ?_); rintro e w1 ⟨rfl, rfl⟩))
    go_ret
    exact ⟨rfl, rfl⟩
  · have hb : b = false := by
      rw [← h, decide_eq_false_iff_not]
      exact fun hp => hle hp.length_le
    subst hb
    have e1 : decide ((l.length : Int) ≥ (m.length : Int)) = false := decide_eq_false (by omega)
    clear h hv hu
    go_enter Try.func24, Try.ntmps24
    go_wp2
    go_ret
    exact ⟨rfl, rfl⟩
end Go.Proofs.Ytofnldmbokdkbaa
