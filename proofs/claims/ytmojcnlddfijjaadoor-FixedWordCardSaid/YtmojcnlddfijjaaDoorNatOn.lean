/-
  One stretch of a run after another.
-/
import Derived.Test.YtmojcnlddfijjaaDoorNatBase
namespace Go.Proofs.YtmojcnlddfijjaaDoor
open Go.RowKit NatMath

theorem Below.on {B : Nat} {a b d : World} (h : Below B a b) (k : Below b.heap.size b d) (hB : B ≤ b.heap.size) : Below B a d := h.trans (k.mono hB)
end Go.Proofs.YtmojcnlddfijjaaDoor
