/-
  The walk of the example that stands at each statement's head (stage 3); DiskNone.
-/
import Derived.Test.YthlclhfepnmaeaaMany
namespace Go.Proofs.Ythlclhfepnmaeaa
open Go.RowKit

def D0 : Ds := ⟨2, [Rg.new 2], 0⟩
def D1 : Ds := D0.wr 0 1 [5]
def D2 : Ds := D1.crash (bitOf 0)
theorem small0 : Small D0 1000000 := (Small.new 1 2).more (by omega)
theorem small1 : Small D1 1000000 := ((Small.new 1 2).wr 0 1 [5]).more (by omega)
section
variable {w : World} {X : Nat → Prop} {g : Nat}
theorem new_fit (h : Many w X []) : Calls Try.prog 5 #[.int .i64 1, .int .i64 2] w fun e w' => ∃ g, e = .returned (ptr g) ∧ Many w' X [(g, D0)] ∧ Below w.heap.size w w' :=
  new_many h 1 2 (by omega) (by omega) (by omega) (by omega)
theorem write_fit (h : Many w X [(g, D0)]) (b : Nat) (hv : Rd w (.slice (some ⟨b, 0, none⟩) 1 1) (u8s [5])) :
    Calls Try.prog 6 #[ptr g, .int .i64 0, .int .i64 1, .slice (some ⟨b, 0, none⟩) 1 1] w fun e w' => e = .returned (.int .i64 0) ∧ Many w' X [(g, D1)] ∧ Out X w w' :=
  write_many (i := 0) h rfl small0 0 1 _ 1 [5] hv
theorem read_fit1 (h : Many w X [(g, D1)]) : Calls Try.prog 11 #[ptr g, .int .i64 0, .int .i64 1] w fun e w' => e = .returned (.tuple #[.slice (some ⟨w.heap.size, 0, none⟩) 64 64, .int .i64 0]) ∧ w'.cell? ⟨w.heap.size, 0, none⟩ = some (.int .u8 5) ∧ w.heap.size < w'.heap.size ∧ Many w' (fun k => X k ∨ k = w.heap.size) [(g, D1)] ∧ Below w.heap.size w w' :=
  (read_many (i := 0) h rfl 0 1 (b := pad [5]) rfl).mono fun _ _ ⟨h1, _, h3, h4, h5⟩ => ⟨h1, h3.cell 0 _ rfl, h3.lt, h.more h5 (fun k hk => by rcases hk with hk | rfl; exact .inl hk; exact .inr ⟨Nat.le_refl _, h3.lt⟩), h5⟩
theorem crash_fit (h : Many w X [(g, D1)]) : Calls Try.prog 9 #[ptr g, .int .u64 0] w fun e w' => e = .returned (.tuple #[]) ∧ Many w' X [(g, D2)] ∧ Out X w w' :=
  crash_many (i := 0) h rfl small1 0
theorem read_fit2 (h : Many w X [(g, D2)]) : Calls Try.prog 11 #[ptr g, .int .i64 0, .int .i64 1] w fun e w' => e = .returned (.tuple #[.slice (some ⟨w.heap.size, 0, none⟩) 64 64, .int .i64 0]) ∧ w'.cell? ⟨w.heap.size, 0, none⟩ = some (.int .u8 0) ∧ Many w' X [(g, D2)] ∧ Below w.heap.size w w' :=
  (read_many (i := 0) h rfl 0 1 (b := zsec) rfl).mono fun _ _ ⟨h1, _, h3, h4, h5⟩ => ⟨h1, h3.cell 0 _ rfl, h4, h5⟩
end

set_option maxHeartbeats 1000000 in
theorem fit_any (w : World) : Calls Try.prog 4 #[] w fun e w' => e = .returned (.bool true) ∧ Below w.heap.size w w' := by
  have hM : Many w (fun k => k < w.heap.size) [] := Many.nil (fun k h => h)
  have HM := hide hM
  clear hM
  go_enter Try.func4, Try.ntmps4
  go_wp2_with (first
    | (go_at_call 5; refine (new_fit HM.out).mono ?_; rintro e w1 ⟨g, rfl, hm1, hb1⟩; have HM1 := hide (hm1.alloc (.cells #[.int .u8 5] 5)); have HR := hide (show Rd (w1.alloc (.cells #[.int .u8 5] 5)) (.slice (some ⟨w1.heap.size, 0, none⟩) 1 1) (u8s [5]) from Rd.new_ w1 _ _ _ rfl rfl (Nat.le_refl _) rfl); have HB1 := hide hb1; clear hm1 hb1)
    | (go_at_call 6; refine (write_fit HM1.out _ HR.out).mono ?_; rintro e w2 ⟨rfl, hm2, ho2⟩; have HM2 := hide hm2; have HO2 := hide ho2; clear hm2 ho2)
    | (go_at_call 11; refine (read_fit1 HM2.out).mono ?_; rintro e w3 ⟨rfl, hc3, hlt3, hm3, hb3⟩; have HM3 := hide hm3; have HB3 := hide hb3; clear HM2 hm3 hb3)
    | (go_at_call 9; refine (crash_fit HM3.out).mono ?_; rintro e w4 ⟨rfl, hm4, ho4⟩; have hc4 := (Kept.cell ho4 (p := ⟨w2.heap.size, 0, none⟩) hlt3 (fun hn => hn (.inr rfl))).trans hc3; have hlt4 := Nat.lt_of_lt_of_le hlt3 ho4.size; have HM4 := hide hm4; have HO4 := hide ho4; clear hm4 ho4)
    | (go_at_call 11; refine (read_fit2 HM4.out).mono ?_; rintro e w5 ⟨rfl, hc5, hm5, hb5⟩; have hc45 := (hb5.cell (p := ⟨w2.heap.size, 0, none⟩) hlt4).trans hc4; have HB5 := hide hb5; clear hm5 hb5))
  go_ret
  have b1 := HB1.out
  have b2 : Below w.heap.size w w2 := (b1.alloc b1.size _).trans (HO2.out.below (by have := b1.size; simp; omega) (fun k hk => hk))
  have b3 := b2.trans (HB3.out.mono b2.size)
  have b4 := b3.trans (HO4.out.below b3.size (fun k hk => .inl hk))
  exact ⟨rfl, b4.trans (HB5.out.mono b4.size)⟩
end Go.Proofs.Ythlclhfepnmaeaa
