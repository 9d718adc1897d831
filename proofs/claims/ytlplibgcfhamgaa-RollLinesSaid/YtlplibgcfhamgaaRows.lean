/-
  No cell of these rows narrows 'for every input' (looked for: loops, veiled, ifaces, maps, wideKeys, modest, calm, conditions, laid).
  DERIVED. THE GIVEN ROWS OF THIS SEAT. 3 by the template 'for every input the law returns true; each argument reads behind the call as it read before'; 0 by the template 'total and deterministic' (their statements: YtlplibgcfhamgaaTotals.lean).
  GIVEN WITH THE SEED: the statements are not yours to turn. If you find one false, say at which input.
  Laid BY PROGRAM, IN A SANDBOX (cutbox-rows.mjs): the forced cells as the released guide's own fill.sh prints them over the translation c86c2d36cb5ae054… (all of the seat's roots in one cut). By AI agents, Wed Nov 11 2026. No macro, syntax, notation, axiom, sorry.
-/
import Derived.Test.YtlplibgcfhamgaaChecked
import GoSem.Claim
import GoSem.ClaimJoined
import GoSem.ClaimMapViews
import Derived.JoinedTies
import Derived.KernelRfl
namespace Go.Proofs.Ytlplibgcfhamgaa
/- THE CELL 'sum', in the pinned program and in every row, IS THE sha256 OF THE DUMP (.gsa) THAT YtlplibgcfhamgaaProg.lean LOADS. Nothing in Lean hashes anything: it is a label: what it is worth is what the hold of that sum in a sandbox is worth. -/
noncomputable def Try.pinned : Pinned := { name := "ytlplibgcfhamgaa", sum := "c86c2d36cb5ae054090b4f7f3962c285a98e0bfb6aed045214bf9ee077f6dd0c", checked := Try.checked }
namespace Rows
def none {H : Type} : Left H := { results := [], args := [] }

/-- 'tenementlaw15.RollSettles': WHATEVER THE INPUT: true; the input reads as it did. -/
def rollSettlesSpec : ChangeSpec := { name := "rollSettles", fn := fun _ => fun
  | [d1, d2, d3] => { results := [.lit (.bool true)], args := [d1, d2, d3] }
  | _ => none }
def rollSettlesRow : OpenClaim := { program := "ytlplibgcfhamgaa", sum := "c86c2d36cb5ae054090b4f7f3962c285a98e0bfb6aed045214bf9ee077f6dd0c", func := "tenement/tenementlaw15.RollSettles", spec := "rollSettles", unfollowed := true, recurses := true, apart := false }
def RollSettlesSaid : Prop := rollSettlesRow.holds Try.pinned (OpenSpec.ofChange rollSettlesSpec)

/-- ITS FALSE NEIGHBOUR: 'it returns false'. Refute it at one input. -/
def rollSettlesWrong : ChangeSpec := { name := "rollSettles", fn := fun _ => fun
  | [d1, d2, d3] => { results := [.lit (.bool false)], args := [d1, d2, d3] }
  | _ => none }
def RollSettlesWrongFalsely : Prop := rollSettlesRow.holds Try.pinned (OpenSpec.ofChange rollSettlesWrong)

/-- 'tenementlaw15.RollDowns': WHATEVER THE INPUT: true; the input reads as it did. -/
def rollDownsSpec : ChangeSpec := { name := "rollDowns", fn := fun _ => fun
  | [d1, d2, d3] => { results := [.lit (.bool true)], args := [d1, d2, d3] }
  | _ => none }
def rollDownsRow : OpenClaim := { program := "ytlplibgcfhamgaa", sum := "c86c2d36cb5ae054090b4f7f3962c285a98e0bfb6aed045214bf9ee077f6dd0c", func := "tenement/tenementlaw15.RollDowns", spec := "rollDowns", unfollowed := true, recurses := true, apart := false }
def RollDownsSaid : Prop := rollDownsRow.holds Try.pinned (OpenSpec.ofChange rollDownsSpec)

/-- ITS FALSE NEIGHBOUR: 'it returns false'. Refute it at one input. -/
def rollDownsWrong : ChangeSpec := { name := "rollDowns", fn := fun _ => fun
  | [d1, d2, d3] => { results := [.lit (.bool false)], args := [d1, d2, d3] }
  | _ => none }
def RollDownsWrongFalsely : Prop := rollDownsRow.holds Try.pinned (OpenSpec.ofChange rollDownsWrong)

/-- 'tenementlaw15.RollLines': WHATEVER THE INPUT: true; the input reads as it did. -/
def rollLinesSpec : ChangeSpec := { name := "rollLines", fn := fun _ => fun
  | [d1, d2, d3] => { results := [.lit (.bool true)], args := [d1, d2, d3] }
  | _ => none }
def rollLinesRow : OpenClaim := { program := "ytlplibgcfhamgaa", sum := "c86c2d36cb5ae054090b4f7f3962c285a98e0bfb6aed045214bf9ee077f6dd0c", func := "tenement/tenementlaw15.RollLines", spec := "rollLines", unfollowed := true, recurses := true, apart := false }
def RollLinesSaid : Prop := rollLinesRow.holds Try.pinned (OpenSpec.ofChange rollLinesSpec)

/-- ITS FALSE NEIGHBOUR: 'it returns false'. Refute it at one input. -/
def rollLinesWrong : ChangeSpec := { name := "rollLines", fn := fun _ => fun
  | [d1, d2, d3] => { results := [.lit (.bool false)], args := [d1, d2, d3] }
  | _ => none }
def RollLinesWrongFalsely : Prop := rollLinesRow.holds Try.pinned (OpenSpec.ofChange rollLinesWrong)

/- THE SECOND FORM. 'bulk': how many values and letters a reading holds, each counted each time it is reached (what is shared counts as often as it is met; a slice's spare places count too). A statement '..UptoSaid' is the law's where the arguments, and the package variables that the reading takes, are together of bulk at most 1048576: NARROWER than '..Said'. Prove '..Said' where nothing that the law and all that it calls make is longer than what came in: it says more and counts as full. Else prove '..UptoSaid'. A law counts once. -/
mutual
def uptoBulk {H : Type} : DataW H → Nat
  | .lit (.string bytes) => bytes.length + 1
  | .lit _ => 1
  | .nil => 1
  | .ptr d => uptoBulk d + 1
  | .slice elems spare => uptoBulkAll elems + uptoBulkAll spare + 1
  | .agg parts => uptoBulkAll parts + 1
  | .iface _ d => uptoBulk d + 1
  | .map entries => uptoBulkEntries entries + 1
  | .held _ => 1
def uptoBulkAll {H : Type} : List (DataW H) → Nat
  | [] => 0
  | d :: r => uptoBulk d + uptoBulkAll r
def uptoBulkEntries {H : Type} : List (Lit × DataW H) → Nat
  | [] => 0
  | x :: r => uptoBulkEntry x + uptoBulkEntries r
def uptoBulkEntry {H : Type} : Lit × DataW H → Nat
  | (.string bytes, d) => bytes.length + uptoBulk d + 1
  | (_, d) => uptoBulk d + 1
 end
def uptoSmall : (H : Type) → List (DataW H) → Bool := fun _ ds => decide (uptoBulkAll ds ≤ 1048576)
def OpenSpec.upto (s : _root_.Go.ChangeSpec) : _root_.Go.OpenSpec := { _root_.Go.OpenSpec.ofChange s with cond := some uptoSmall }

/-- 'tenementlaw15.RollSettles', WHERE WHAT IT READS IS OF BULK AT MOST 1048576: true; the input reads as it did. -/
def rollSettlesUptoRow : OpenClaim := { program := "ytlplibgcfhamgaa", sum := "c86c2d36cb5ae054090b4f7f3962c285a98e0bfb6aed045214bf9ee077f6dd0c", func := "tenement/tenementlaw15.RollSettles", spec := "rollSettles", unfollowed := true, recurses := true, apart := false, narrowed := true }
def RollSettlesUptoSaid : Prop := rollSettlesUptoRow.holds Try.pinned (OpenSpec.upto rollSettlesSpec)

/-- 'tenementlaw15.RollDowns', WHERE WHAT IT READS IS OF BULK AT MOST 1048576: true; the input reads as it did. -/
def rollDownsUptoRow : OpenClaim := { program := "ytlplibgcfhamgaa", sum := "c86c2d36cb5ae054090b4f7f3962c285a98e0bfb6aed045214bf9ee077f6dd0c", func := "tenement/tenementlaw15.RollDowns", spec := "rollDowns", unfollowed := true, recurses := true, apart := false, narrowed := true }
def RollDownsUptoSaid : Prop := rollDownsUptoRow.holds Try.pinned (OpenSpec.upto rollDownsSpec)

/-- 'tenementlaw15.RollLines', WHERE WHAT IT READS IS OF BULK AT MOST 1048576: true; the input reads as it did. -/
def rollLinesUptoRow : OpenClaim := { program := "ytlplibgcfhamgaa", sum := "c86c2d36cb5ae054090b4f7f3962c285a98e0bfb6aed045214bf9ee077f6dd0c", func := "tenement/tenementlaw15.RollLines", spec := "rollLines", unfollowed := true, recurses := true, apart := false, narrowed := true }
def RollLinesUptoSaid : Prop := rollLinesUptoRow.holds Try.pinned (OpenSpec.upto rollLinesSpec)

end Rows
end Go.Proofs.Ytlplibgcfhamgaa
