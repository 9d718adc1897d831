/-
  Locks.Key, Locks.Table.
-/
import Derived.Test.YtdoeinofcklnhaaLock
import Derived.Deep.RegionWith
namespace Go.Proofs.Ytdoeinofcklnhaa
open Go.RowKit
set_option maxRecDepth 20000
set_option linter.unusedSimpArgs false
set_option linter.unusedVariables false

def keyR (t : Int) (k : ByteArray) : List (Th × Int) := [(⟨t, false, k⟩, 1)]
def keyW (t : Int) (k : ByteArray) : List (Th × Int) := [(⟨t, true, ⟨#[]⟩⟩, 2), (⟨t, false, k⟩, 3)]
def tabR (t : Int) : List (Th × Int) := [(⟨t, true, ⟨#[]⟩⟩, 1)]
theorem LockP.from_ {w w1 w' : World} {g n : Nat} {S : Th → Option Ho} {O : Nat → Prop} {who : Int} {ws : List (Th × Int)} {e : Ending} (hb : Below w.heap.size w w1) (h : LockP w1 g n S O who ws e w') : LockP w g n S O who ws e w' := by
  refine ⟨h.1, (Kept.of_below (S := O) hb).trans_same h.2.1, h.2.2.mono (fun k hk _ => ?_)⟩
  have := hb.size
  rcases hk with hk | hk
  · exact .inl hk
  · exact .inr (by omega)
theorem Lk.lows {w : World} {g n : Nat} {S : Th → Option Ho} {O : Nat → Prop} (h : Lk w g n S O) : Lk w g n S (fun k => O k ∧ k < w.heap.size) := h.mono (fun k h1 h2 => ⟨h1, h2⟩)
theorem LockP.more {w w' : World} {g n : Nat} {S : Th → Option Ho} {O O' : Nat → Prop} {who : Int} {ws : List (Th × Int)} {e : Ending} (h : LockP w g n S O who ws e w') (hO : ∀ k, O k → O' k) : LockP w g n S O' who ws e w' :=
  ⟨h.1, h.2.1.mono (fun k hk => .inl (hO k hk)), h.2.2.mono (fun k hk _ => by rcases hk with hk | hk; exact .inl (hO k hk); exact .inr hk)⟩
/-- The wants in a block that was just made. -/
theorem wants_one {w : World} {b : Nat} {x : Th} {m : Int} {T : TypeId} (h : Blk w b T #[.int .i64 x.t, .bool x.w, .string x.key, .int .i64 m]) (hx : x.Ok) : Wants w b [(x, m)] := by
  refine ⟨fun j y hj => ?_, h.lt, fun y hy => ?_⟩
  · match j, hj with
    | 0, hj =>
      obtain rfl := Option.some.inj hj
      exact ⟨h.cell 0 _ rfl, h.cell 1 _ rfl, h.cell 2 _ rfl, h.cell 3 _ rfl⟩
    | j + 1, hj => cases hj
  · obtain rfl := List.mem_singleton.1 hy
    exact hx
theorem wants_two {w : World} {b : Nat} {x y : Th} {m q : Int} {T : TypeId} (h : Blk w b T #[.int .i64 x.t, .bool x.w, .string x.key, .int .i64 m, .int .i64 y.t, .bool y.w, .string y.key, .int .i64 q]) (hx : x.Ok) (hy : y.Ok) : Wants w b [(x, m), (y, q)] := by
  refine ⟨fun j z hj => ?_, h.lt, fun z hz => ?_⟩
  · match j, hj with
    | 0, hj =>
      obtain rfl := Option.some.inj hj
      exact ⟨h.cell 0 _ rfl, h.cell 1 _ rfl, h.cell 2 _ rfl, h.cell 3 _ rfl⟩
    | 1, hj =>
      obtain rfl := Option.some.inj hj
      exact ⟨h.cell 4 _ rfl, h.cell 5 _ rfl, h.cell 6 _ rfl, h.cell 7 _ rfl⟩
    | j + 2, hj => cases hj
  · rcases List.mem_cons.1 hz with rfl | hz
    · exact hx
    · obtain rfl := List.mem_singleton.1 hz
      exact hy
section
variable {w : World} {g n : Nat} {S : Th → Option Ho} {O : Nat → Prop}
/-- lock, called where the wants were just made. -/
theorem lock_one {w1 : World} {b : Nat} {x : Th} {m : Int} {T : TypeId} (h : Lk w g n S O) (hb : Below w.heap.size w w1) (hx : x.Ok) (who : Int) (hw : (Lit.int .i64 who).wf = true) (hn : n ≤ 900000) (hbb : w.heap.size ≤ b) (hB : Blk w1 b T #[.int .i64 x.t, .bool x.w, .string x.key, .int .i64 m]) :
    Calls Try.prog 14 #[.pointer (some ⟨g, 0, none⟩), .int .i64 who, .slice (some ⟨b, 0, none⟩) 1 1] w1 fun e w' => LockP w g n S O who [(x, m)] e w' := by
  have h1 := h.lows
  have h2 := h1.keep (X := fun _ => False) (Kept.of_below hb) (fun _ _ => id)
  refine (lock_any (ws := [(x, m)]) h2 (wants_one hB hx) (fun e => by omega) (by simp) who hw hn).mono ?_
  intro e w' h3
  exact (h3.more (fun k hk => hk.1)).from_ hb
theorem lock_two {w1 : World} {b : Nat} {x y : Th} {m q : Int} {T : TypeId} (h : Lk w g n S O) (hb : Below w.heap.size w w1) (hx : x.Ok) (hy : y.Ok) (who : Int) (hw : (Lit.int .i64 who).wf = true) (hn : n ≤ 900000) (hbb : w.heap.size ≤ b) (hB : Blk w1 b T #[.int .i64 x.t, .bool x.w, .string x.key, .int .i64 m, .int .i64 y.t, .bool y.w, .string y.key, .int .i64 q]) :
    Calls Try.prog 14 #[.pointer (some ⟨g, 0, none⟩), .int .i64 who, .slice (some ⟨b, 0, none⟩) 2 2] w1 fun e w' => LockP w g n S O who [(x, m), (y, q)] e w' := by
  have h1 := h.lows
  have h2 := h1.keep (X := fun _ => False) (Kept.of_below hb) (fun _ _ => id)
  refine (lock_any (ws := [(x, m), (y, q)]) h2 (wants_two hB hx hy) (fun e => by omega) (by simp) who hw hn).mono ?_
  intro e w' h3
  exact (h3.more (fun k hk => hk.1)).from_ hb
theorem table_any (h : Lk w g n S O) (who t : Int) (hw : (Lit.int .i64 who).wf = true) (ht : (Lit.int .i64 t).wf = true) (hn : n ≤ 900000) :
    Calls Try.prog 11 #[.pointer (some ⟨g, 0, none⟩), .int .i64 who, .int .i64 t] w fun e w' => LockP w g n S O who (tabR t) e w' := by
  have hx : Th.Ok ⟨t, true, ⟨#[]⟩⟩ := ⟨ht, Nat.zero_le _⟩
  have HL := hide (fun (w1 : World) (b : Nat) (hb : Below w.heap.size w w1) (hbb : w.heap.size ≤ b) (hB : Blk w1 b 46 #[.int .i64 t, .bool true, .string ⟨#[]⟩, .int .i64 1]) => lock_one (x := ⟨t, true, ⟨#[]⟩⟩) (m := 1) h hb hx who hw hn hbb hB)
  clear h hw ht hn hx
  go_enter Try.func11, Try.ntmps11
  go_wp2_with (first
    | (go_at_call 15; (with_reducible refine (whole_any t _).mono ?_); rintro e w1 ⟨rfl, hb⟩; have HB := hide hb; clear hb)
    | (go_at_call 14; refine (HL.out _ _ (HB.out.alloc HB.out.size _) HB.out.size (Blk.new_ _ _ _ rfl)).mono ?_; intro e w2 hp; obtain ⟨rfl, hk, hl⟩ := hp; have HK := hide hk; have HLK := hide hl; clear hk hl))
  go_ret
  exact ⟨rfl, HK.out, HLK.out⟩
theorem key_read (h : Lk w g n S O) (who t : Int) (k : ByteArray) (hw : (Lit.int .i64 who).wf = true) (hx : Th.Ok ⟨t, false, k⟩) (hn : n ≤ 900000) :
    Calls Try.prog 10 #[.pointer (some ⟨g, 0, none⟩), .int .i64 who, .int .i64 t, .string k, .bool false] w fun e w' => LockP w g n S O who (keyR t k) e w' := by
  have HL := hide (fun (w1 : World) (b : Nat) (hb : Below w.heap.size w w1) (hbb : w.heap.size ≤ b) (hB : Blk w1 b 46 #[.int .i64 t, .bool false, .string k, .int .i64 1]) => lock_one (x := ⟨t, false, k⟩) (m := 1) h hb hx who hw hn hbb hB)
  clear h hw hn hx
  have HB := hide ((Below.refl _ w).alloc (Nat.le_refl _) (.cells #[.int .i64 t, .bool false, .string k] 43))
  go_enter Try.func10, Try.ntmps10
  go_wp2_with (go_at_call 14; refine (HL.out _ _ (HB.out.alloc (by simp) _) (by simp) (Blk.new_ _ _ _ (by simp))).mono ?_; intro e w2 hp; obtain ⟨rfl, hk, hl⟩ := hp; have HK := hide hk; have HLK := hide hl; clear hk hl)
  go_ret
  exact ⟨rfl, HK.out, HLK.out⟩
end
end Go.Proofs.Ytdoeinofcklnhaa
