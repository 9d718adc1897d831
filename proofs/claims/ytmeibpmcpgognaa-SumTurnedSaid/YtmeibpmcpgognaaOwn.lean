/-
  Closed facts on the loaded program.
-/
import Derived.Test.YtmeibpmcpgognaaRows
namespace Go.Proofs.Ytmeibpmcpgognaa
theorem own : ownKnob Try.prog.godebug = none := by kernel_rfl
theorem laidOut : laidOutB Try.prog = true := by kernel_rfl
theorem cells8 : Try.prog.cellsOf 5 = 1 := by kernel_rfl
end Go.Proofs.Ytmeibpmcpgognaa
