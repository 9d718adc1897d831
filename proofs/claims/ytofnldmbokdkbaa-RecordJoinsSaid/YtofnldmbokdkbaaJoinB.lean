/-
  What RecordJoins' walk leans on: seeds in a slice, frames one behind the other.
-/
import Derived.Test.YtofnldmbokdkbaaAnyB
import Derived.Deep.MidRow
namespace Go.Proofs.Ytofnldmbokdkbaa
open Go.RowKit

set_option linter.unusedSimpArgs false
set_option linter.unusedVariables false

theorem infoSeed : (Try.prog.info? 24).map (·.size) = some 8 := by kernel_rfl
/-- The frames of seeds' records, one behind the other. -/
def frs (cs : List SeedD) : List UInt8 := (cs.map fun x => (seedR x).frame).flatten
theorem frs_take (cs : List SeedD) (k : Nat) (h : k < cs.length) : frs (cs.take (k + 1)) = frs (cs.take k) ++ (seedR cs[k]).frame := by
  unfold frs
  rw [List.take_succ_eq_append_getElem h, List.map_append, List.flatten_append]
  simp only [List.map_cons, List.map_nil, List.flatten_cons, List.flatten_nil, List.append_nil]
theorem frs_drop (cs : List SeedD) (k : Nat) (h : k < cs.length) : frs (cs.drop k) = (seedR cs[k]).frame ++ frs (cs.drop (k + 1)) := by
  unfold frs
  rw [List.drop_eq_getElem_cons h, List.map_cons, List.flatten_cons]
theorem frs_length (cs : List SeedD) (hu : ∀ x ∈ cs, ∀ y ∈ x.ds, y < 18446744073709551616) : (frs cs).length ≤ 395 * cs.length := by
  induction cs with
  | nil => simp [frs]
  | cons x cs ih =>
    have h1 := ih (fun z hz => hu z (List.mem_cons_of_mem _ hz))
    have h2 := (seedR_ok x (hu x (List.mem_cons_self ..))).most
    have e : frs (x :: cs) = (seedR x).frame ++ frs cs := by simp [frs]
    rw [e, List.length_append, List.length_cons]
    omega
theorem SeedRow.us {w : World} {B : Nat} {v : Value} {cs : List SeedD} (h : SeedRow w B v cs) : ∀ x ∈ cs, ∀ y ∈ x.ds, y < 18446744073709551616 := by
  obtain ⟨A, c, _, _, h2⟩ := h
  exact fun x hx => (h2 x hx).u
/-- What is to be known of seed k. -/
theorem seed_at {w wr : World} {B k : Nat} {v : Value} {cs : List SeedD} (hv : SeedRow w B v cs) (hb : Below B w wr) (hk : k < cs.length) : ∃ b o cap, v = .slice (some ⟨b, o, none⟩) cs.length cap ∧ ∃ A n c, cs[k].ds.length = n ∧
    wr.rangeAt b (o + k * 8) [.int .i64 cs[k].k, .int .i64 cs[k].t, .int .i64 cs[k].p, .int .i64 cs[k].s, .int .u8 (cs[k].b.toNat : Int), .int .u8 (cs[k].a.toNat : Int), .int .u8 (cs[k].i.toNat : Int), .slice A n c] ∧ Row wr B (.slice A n c) (u64s cs[k].ds) := by
  obtain ⟨A0, cap, rfl, hcells, hall⟩ := hv
  obtain ⟨b, o, rfl, hbB, hcell⟩ := hcells (by omega)
  have hf := hall cs[k] (List.getElem_mem hk)
  refine ⟨b, o, cap, rfl, ?_⟩
  have hc := hcell k cs[k] (List.getElem?_eq_getElem hk)
  obtain ⟨A, c, he, h1, h2⟩ := id hf.row
  refine ⟨A, _, c, rfl, fun j u hu => ?_, ?_⟩
  · refine (hb.cell (p := ⟨b, o + k * 8 + j, none⟩) hbB).trans (hc j u ?_)
    unfold SeedD.cells
    rw [he, u64s_length]
    exact hu
  · have := hf.row.below hb
    rw [he, u64s_length] at this
    exact this
theorem decB_nil : decB [] = false := by
  cases h : decB []
  · rfl
  · obtain ⟨z, _, hz, hp⟩ := decB_yes h
    have := hp.length_le
    rw [z.frame_length] at this
    simp at this
/-- It is a record, its numbers where they lie. -/
def Say.rcd (r : Rc) : Say := ⟨fun w v => ∃ A c, v = .agg #[.int .i64 (r.k : Int), .int .i64 (r.t : Int), .int .i64 (r.p : Int), .int .i64 (r.s : Int), .string r.b, .string r.a, .string r.i, .slice A r.ds.length c] ∧ Rd w (.slice A r.ds.length c) (u64s r.ds), fun _ _ _ ⟨A, c, e, h⟩ hb => ⟨A, c, e, h.below hb⟩⟩
theorem seed_grow {r : Rc} {x : SeedD} {A : Option Addr} {n c : Nat} (w : World) (hn : x.ds.length = n) (hr : seedR x = r) (hv : Rd w (.slice A n c) (u64s x.ds)) :
    Calls Try.prog 11 #[.agg #[.int .i64 x.k, .int .i64 x.t, .int .i64 x.p, .int .i64 x.s, .int .u8 (x.b.toNat : Int), .int .u8 (x.a.toNat : Int), .int .u8 (x.i.toNat : Int), .slice A n c]] w fun e w' => ∃ v, e = .returned v ∧ (Say.rcd r).p w' v ∧ Below w.heap.size w w' := by
  refine (seed_r x A n c w hn hr hv).mono ?_
  rintro e w' ⟨A, c, rfl, h1, h2⟩
  exact ⟨_, rfl, ⟨A, c, rfl, h1⟩, h2⟩
end Go.Proofs.Ytofnldmbokdkbaa
