/-
  A statement of a great function's code, by its path.
-/
import Derived.Test.YtkegfedbffhnfaaRunS
namespace Go.Proofs.Ytkegfedbffhnfaa
open Go.RowKit
/-- The statement at a path. -/
def subC : Code → List Nat → Code
  | c, [] => c
  | .seq a b, i :: p => if i = 0 then subC a p else subC b p
  | .cond _ a b, i :: p => if i = 0 then subC a p else subC b p
  | .block _ c, _ :: p => subC c p
  | .loop c, _ :: p => subC c p
  | .scope c, _ :: p => subC c p
  | _, _ :: _ => .skip
end Go.Proofs.Ytkegfedbffhnfaa
