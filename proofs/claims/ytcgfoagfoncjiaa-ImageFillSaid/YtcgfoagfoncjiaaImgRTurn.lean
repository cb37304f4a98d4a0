/-
  The reference's Turn.
-/
import Derived.Test.YtcgfoagfoncjiaaImgRShift
namespace Go.Proofs.Ytcgfoagfoncjiaa
open Go.RowKit Im

/-- What Turn makes of the pixels. -/
def Im.tnG (v u : Nat) (bs : List Int) : Nat → Nat → Bool := fun r c => getP v u bs ((v : Int) - 1 - (c : Int)) ((u : Int) - 1 - (r : Int))
end Go.Proofs.Ytcgfoagfoncjiaa
